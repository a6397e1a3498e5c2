/-
  An operator, so many times, added to a sum.
-/
import Derived.Test.YtkcmamepoplcdaaGreatDoorXan
import Derived.Test.YtkcmamepoplcdaaGreatDoorXap
set_option maxHeartbeats 8000000
set_option maxRecDepth 100000
namespace Go.Proofs.YtkcmamepoplcdaaGreatDoor
open Go.RowKit Go.Maps
set_option linter.unusedVariables false
def eY (k:Int) (f:Nat→T) (c:M→Int):Nat→M→Int
 |0=>c
 |i+1=>jA (eY k f c i) (f i).m (k*(f i).c%101)
theorem qY (w:World):w.grownBy w.drew none:=⟨rfl,rfl,rfl,Nat.le_refl _,fun _ _ _=>rfl⟩
theorem DF {w w':World} {row:Option Nat} (h:w.grownBy w' none):w.grownBy w' row:=⟨h.os,h.tape,h.output,h.size,fun k hk _=>h.block k hk (by simp)⟩
theorem zC (w:World) (b n:Nat) (c:M→Int) (k:Int) (a:Option Addr) (la cap:Nat) (f:Nat→T) (h:eP w b n c) (hr:Rd w a la cap f) (hne:la=0∨∀b' off,a=some ⟨b',off,none⟩→some b'≠some b) (hm:∀i,i<la→(f i).m.ok=true) (hc:∀i,i<la→0≤(f i).c∧(f i).c≤100) (k0:0≤k) (k1:k≤100) (hn:n+la≤1000000) (hb:b<w.heap.size):Calls Tryz.prog 142 #[.map (some b),.int .i64 k,.slice a la cap] w fun e w'=>e= .returned (.tuple #[])∧eP w' b (n+la) (eY k f c la)∧w.grownBy w' (some b):=by
 have HR:=aA hr;have HS:=aA h
 have HM:=aA hm;have HC:=aA hc
 have HNE:=aA hne;have hl:(la:Int)≤1000000:=by omega
 clear h hr hm hc hne;go_enter Tryz.func142,Tryz.ntmps142;go_wp2;go_loopw [10] (fun i wr=>∃j:Nat,j≤la∧i= .int .i64 j∧eP wr b (n+j) (eY k f c j)∧w.grownBy wr (some b)) (fun i _=>la-(intOf i).toNat);case atStart=>exact⟨0,gO _,rfl,HS.out,qZ w _⟩
 case round=>
  obtain⟨j,hj,rfl,hS,hg⟩:=hrel;by_cases hlt:j<la
  ·have hjl:(j:Int)<(la:Int):=by omega
   have hrj:=HR.out.grown hg HNE.out;rcases hrj.2.2 with h0|⟨pb,off,rfl,hblt,hcl⟩
   ·omega
   obtain⟨g0,g1,g2,g3,g4⟩:=hcl j hlt;have hmj:=HM.out j hlt
   obtain⟨c0,c1⟩:=HC.out j hlt;have HSJ:=aA hS
   have HG:=aA hg;clear hcl hrj hS hg;go_wp2_with fail;have HSQ:=aA (HSJ.out.grown (World.grownBy_alloc wr (.cells #[.int .i64 (f j).c,.int .i64 (f j).m.x,.int .i64 (f j).m.y,.int .i64 (f j).m.d,.int .i64 (f j).m.e] 79) none) (by simp))
   have HGQ:=aA (HG.out.trans (World.grownBy_alloc wr (.cells #[.int .i64 (f j).c,.int .i64 (f j).m.x,.int .i64 (f j).m.y,.int .i64 (f j).m.d,.int .i64 (f j).m.e] 79) (some b)));have hq:∀i v,#[Value.int .i64 (f j).c,.int .i64 (f j).m.x,.int .i64 (f j).m.y,.int .i64 (f j).m.d,.int .i64 (f j).m.e][i]? =some v→(wr.alloc (.cells #[.int .i64 (f j).c,.int .i64 (f j).m.x,.int .i64 (f j).m.y,.int .i64 (f j).m.d,.int .i64 (f j).m.e] 79)).cell? ⟨wr.heap.size,i,none⟩=some v:=fun i v hv=>by rw[World.cell?_alloc_at _ _ _ _ rfl];exact hv
   have q0:=hq 0 _ rfl;have q1:=hq 1 _ rfl
   have q2:=hq 2 _ rfl;have q3:=hq 3 _ rfl
   have q4:=hq 4 _ rfl;clear hq g0 g1 g2 g3 g4 HSJ HG;generalize(wr.alloc (.cells #[.int .i64 (f j).c,.int .i64 (f j).m.x,.int .i64 (f j).m.y,.int .i64 (f j).m.d,.int .i64 (f j).m.e] 79))=wq at HSQ HGQ q0 q1 q2 q3 q4⊢;have HADD:=aA (wF b (n+j) (eY k f c j) (k*(f j).c%101) (f j).m wq.drew hmj (HSQ.out.grown (qY wq) (by simp)) (by unfold maxLen;omega) (by omega) (by omega))
   go_region_with (first|(go_at_call 151;refine(lM _ _ _ k0 k1 c0 c1).mono ?_;rintro r w2 ⟨rfl,hw⟩;obtain rfl:=hw.symm;clear hw)|(go_at_call 117;refine HADD.out.mono ?_;rintro r w4 ⟨rfl,hS4,hg4⟩;have HS4:=aA hS4;have HG4:=aA ((HGQ.out.trans (DF (qY wq))).trans hg4);clear hS4 hg4))
   all_goals
    go_wp2;go_roundw;case rel=>exact⟨j+1,by omega,by go_num,HS4.out,HG4.out⟩
    case measure=>simp[intOf];omega
  ·obtain rfl:j=la:=by omega
   have HSJ:=aA hS;have HG:=aA hg
   clear hS hg;go_wp2
   go_end0
   exact⟨rfl,HSJ.out,HG.out⟩
end Go.Proofs.YtkcmamepoplcdaaGreatDoor
namespace Go.Proofs.YtkcmamepoplcdaaGreatDoor
open Go.RowKit
set_option linter.unusedVariables false
theorem qX {f:Nat→T} {m:M}:∀(u i:Nat),(f (i+u)).m≠m→bX f (u+1) i m=bX f u i m
 |0,i,h=>by show(if mF (f i).m m=true then(f i).c else 0)=0;exact if_neg (fun e=>h (cC.1 e))
 |u+1,i,h=>by
  have:=qX (f:=f) (m:=m) u (i+1) (by rw[show i+1+u=i+(u+1) by omega];exact h);show(if mF (f i).m m=true then(f i).c else bX f (u+1) (i+1) m)=(if mF (f i).m m=true then(f i).c else bX f u (i+1) m)
  rw[this]
theorem tT {f:Nat→T} {m:M}:∀(u i:Nat),(∀j,i≤j→j<i+u→(f j).m≠m)→(f (i+u)).m=m→bX f (u+1) i m=(f (i+u)).c
 |0,i,_,h=>by show(if mF (f i).m m=true then(f i).c else 0)=(f i).c;exact if_pos (cC.2 h)
 |u+1,i,h0,h=>by
  rw[bX,if_neg (fun e=>h0 i (Nat.le_refl _) (by omega) (cC.1 e))];have:=tT (f:=f) (m:=m) u (i+1) (fun j h1 h2=>h0 j (by omega) (by omega)) (by rw[show i+1+u=i+(u+1) by omega];exact h)
  rw[this,show i+1+u=i+(u+1) by omega]
theorem pD {k:Int} {f:Nat→T} {c:M→Int} {n:Nat} (F:Fl f n) (hc:∀m,0≤c m∧c m≤100):∀(i:Nat),i≤n→∀m,eY k f c i m=(c m+k*bX f i 0 m%101)%101
 |0,_,m=>by have:=hc m;simp only[eY,bX,Int.mul_zero];omega
 |i+1,hi,m=>by
  have ih:=pD (k:=k) F hc i (by omega);simp only[eY];by_cases hm:m=(f i).m
  ·subst hm;rw[uP,ih];have h0:bX f i 0 (f i).m=0:=mN i 0 (fun j _ h2 e=>by have:=F.1 j i (by omega) (by omega);rw[e]at this;omega)
   have h1:bX f (i+1) 0 (f i).m=(f i).c:=by have:=tT (f:=f) (m:=(f i).m) i 0 (fun j _ h2 e=>by have:=F.1 j i (by omega) (by omega);rw[e]at this;omega) (by rw[Nat.zero_add]);rw[this,Nat.zero_add]
   rw[h0,h1];have:=hc (f i).m
   simp only[Int.mul_zero];omega
  ·rw[mW hm,ih,qX i 0 (by rw[Nat.zero_add];exact fun e=>hm e.symm)]
theorem CJ {c:Int} {f g:Nat→T} {la lb:Nat} (F:Fl f la) (G:Fl g lb) (m:M):eY c g (eY 1 f (fun _=>0) la) lb m=(bX f la 0 m+c*bX g lb 0 m)%101:=by
 have hz:∀m:M,(0:Int)≤(fun _=>0:M→Int) m∧(fun _=>0:M→Int) m≤100:=fun _=>⟨Int.le_refl _,by show(0:Int)≤100;decide⟩
 have h1:=pD (k:=1) F hz la (Nat.le_refl _);have h2:=pD (k:=c) G (c:=eY 1 f (fun _=>0) la) (fun m=>by rw[h1];omega) lb (Nat.le_refl _) m
 rw[h2,h1];simp only[Int.one_mul];omega
theorem dD (w:World) (lo:Nat):w.ownsRow lo 79 5 (.slice none 0 0) 0 (aG []):=⟨rfl,.inl ⟨rfl,rfl⟩⟩
open Go.RowKit Go.Maps Go.Sort Go.Shelf
theorem eP.range {w:World} {b n:Nat} {c:M→Int} (h:eP w b n c):∀m,0≤c m∧c m≤100:=by obtain⟨D,_,hc,_⟩:=h;exact hc
theorem wG (w:World):eP (w.alloc (.map #[] 0)) w.heap.size 0 (fun _=>0):=
 ⟨.map [],World.ownsMap_made w _ _ _,fun _=>⟨Int.le_refl _,by show(0:Int)≤100;decide⟩,fun m _=>⟨rfl,by simp[Maps.has]⟩,fun kl h=>by simp[Maps.has]at h⟩
theorem Rd.apart {w:World} {a:Option Addr} {n cap:Nat} {f:Nat→T} (h:Rd w a n cap f) {b:Nat} (hb:w.heap.size≤b):n=0∨∀b' off,a=some ⟨b',off,none⟩→some b'≠some b:=by
 rcases h.2.2 with h0|⟨pb,off,rfl,hlt,_⟩
 ·exact .inl h0
 ·exact .inr (fun b' off' e e'=>by cases e;cases e';omega)
def iA (K:List T):List T×Bool:=if K.length≤400 then(K,true)else([],false)
theorem wH (w:World) (b n:Nat) (c:M→Int) (h:eP w b n c) (hn:n≤1000000) {K:List T} (hK:aX K) (hKc:∀m,m.ok=true→bN K m=c m):Calls Tryz.prog 112 #[.map (some b)] w fun e w'=>∃v,e= .returned (.tuple #[v,.bool (iA K).2])∧Below w.heap.size w w'∧w'.ownsRow w.heap.size 79 5 v (iA K).1.length (aG (iA K).1):=by
 by_cases h400:K.length≤400
 ·have e:iA K=(K,true):=if_pos h400;rw[e];exact NG JL w b n c h hn hK hKc h400
 ·have e:iA K=([],false):=if_neg h400;rw[e];refine(NF JL w b n c h hn hK hKc h400).mono ?_;rintro r w5 ⟨rfl,hb5⟩;exact⟨_,rfl,hb5,dD w5 _⟩
theorem GV (n:Int) (w:World):(Instr.makeMap 120 (some (.int .i64 n))).run Tryz.prog w= .ok (.map (some w.heap.size)) (w.alloc (.map #[] 0)):=by have hu:=run_underlying (P:=Tryz.prog) Tryz.underlying120;unfold Instr.makeMap;simp[hu,asInt,go_sem,Sem.run_bind,Result.andThen]
def qP (k:Int) (f:Nat→T) (la:Nat) (g:Nat→T) (lb:Nat) (K:List T):List T×Bool:=if aH la f=true∧aH lb g=true∧K.length≤400 then(K,true)else([],false)
theorem nY (w:World) (a b:Option Addr) (la ca lb cb:Nat) (f g:Nat→T) (k:Int) (k0:0≤k) (k1:k≤100) (ha:Rd w a la ca f) (hb:Rd w b lb cb g) (K:List T) (hK:aH la f=true→aH lb g=true→aX K∧∀m,m.ok=true→bN K m=eY k g (eY 1 f (fun _=>0) la) lb m):Calls Tryz.prog 110 #[.slice a la ca,.int .i64 k,.slice b lb cb] w fun r w'=>∃v,r= .returned (.tuple #[v,.bool (qP k f la g lb K).2])∧Below w.heap.size w w'∧w'.ownsRow w.heap.size 79 5 v (qP k f la g lb K).1.length (aG (qP k f la g lb K).1):=by
 have HA:=aA ha;have HB:=aA hb
 have hla:(la:Int)≤140737488351232:=by have:=ha.2.1;omega
 have hlb:(lb:Int)≤140737488351232:=by have:=hb.2.1;omega
 clear ha hb;cases hpa:aH la f
 ·have e1:qP k f la g lb K=([],false):=by simp[qP,hpa]
  rw[e1];go_enter Tryz.func110,Tryz.ntmps110;go_wp2_with (go_at_call 57;refine(dU _ _ _ _ f HA.out).mono ?_;rw[hpa];rintro r w1 ⟨rfl,hb1⟩;have HB1:=aA hb1;clear hb1);refine bC (results_tmp2 rfl _ _ _) rfl ?_;exact⟨_,rfl,HB1.out,dD w1 _⟩
 ·cases hpb:aH lb g
  ·have e1:qP k f la g lb K=([],false):=by simp[qP,hpb]
   rw[e1];go_enter Tryz.func110,Tryz.ntmps110
   go_wp2_with (first
    |(go_at_call_of 57 (Value.slice a la ca);refine(dU _ _ _ _ f HA.out).mono ?_;rw[hpa];rintro r w1 ⟨rfl,hb1⟩;have HB1:=aA hb1;clear hb1)
    |(go_at_call_of 57 (Value.slice b lb cb);refine(dU _ _ _ _ g (HB.out.below HB1.out)).mono ?_;rw[hpb];rintro r w2 ⟨rfl,hb2⟩;have HB2:=aA hb2;clear hb2))
   refine bC (results_tmp2 rfl _ _ _) rfl ?_;exact⟨_,rfl,aC HB1.out HB2.out,dD w2 _⟩
  ·obtain⟨hKf,hKc⟩:=hK hpa hpb;have F:=cG hpa
   have G:=cG hpb;have HF:=aA F
   have HG:=aA G;have l1:la≤400:=by simp only[aH,decide_eq_true_eq]at hpa;exact hpa.1
   have l2:lb≤400:=by simp only[aH,decide_eq_true_eq]at hpb;exact hpb.1
   have hmk:=GV;have e2:qP k f la g lb K=iA K:=by simp[qP,iA,hpa,hpb]
   rw[e2];clear F G e2 hK;go_enter Tryz.func110,Tryz.ntmps110
   go_wp2_with (first
    |(go_at_call_of 57 (Value.slice a la ca);refine(dU _ _ _ _ f HA.out).mono ?_;rw[hpa];rintro r w1 ⟨rfl,hb1⟩;have HB1:=aA hb1;clear hb1)
    |(go_at_call_of 57 (Value.slice b lb cb);refine(dU _ _ _ _ g (HB.out.below HB1.out)).mono ?_;rw[hpb];rintro r w2 ⟨rfl,hb2⟩;have HB2:=aA (aC HB1.out hb2);clear hb2)
    |(go_at_call_of 142 (Value.slice a la ca);refine(zC _ w2.heap.size 0 _ 1 a la ca f (wG w2) ((HA.out.below HB2.out).below (aF w2 _)) ((HA.out.below HB2.out).apart (Nat.le_refl _)) (fun i hi=>(HF.out.2 i hi).1) (fun i hi=>by have:=HF.out.2 i hi;omega) (by omega) (by omega) (by omega) (by simp)).mono ?_;rintro r w3 ⟨rfl,hs3,hg3⟩;have HS3:=aA hs3;have HG3:=aA ((World.grownBy_alloc w2 (.map #[] 0) (some w2.heap.size)).trans hg3);clear hs3 hg3)
    |(go_at_call_of 142 (Value.slice b lb cb);refine(zC _ w2.heap.size (0+la) _ k b lb cb g HS3.out ((HB.out.below HB2.out).grown HG3.out ((HB.out.below HB2.out).apart (Nat.le_refl _))) ((HB.out.below HB2.out).apart (Nat.le_refl _)) (fun i hi=>(HG.out.2 i hi).1) (fun i hi=>by have:=HG.out.2 i hi;omega) k0 k1 (by omega) (by obtain⟨D,ho,_⟩:=HS3.out;exact ho.lt)).mono ?_;rintro r w4 ⟨rfl,hs4,hg4⟩;have HS4:=aA hs4;have HG4:=aA (HG3.out.trans hg4);clear hs4 hg4))
   have hlo:w.heap.size≤w2.heap.size:=HB2.out.size;have hB4:Below w.heap.size w w4:=HB2.out.grown HG4.out hlo (fun k' e=>by cases e;exact hlo)
   refine(wH _ _ _ _ HS4.out (by omega) hKf hKc).mono ?_;rintro r w5 ⟨v,rfl,hb5,ho5⟩;go_wp2;refine bC (results_tmp2 rfl _ _ _) rfl ?_;exact⟨_,rfl,hB4.trans (hb5.mono hB4.size),dS ho5 hB4.size⟩
theorem IM {f g:Nat→T} {la lb:Nat} (hpa:aH la f=true) (hpb:aH lb g=true):aX (cV f la g lb 0 0)∧∀m,m.ok=true→bN (cV f la g lb 0 0) m=eY 1 g (eY 1 f (fun _=>0) la) lb m:=by obtain⟨_,h2,h3⟩:=gH (cG hpa) (cG hpb) (la-0+(lb-0)) 0 0 (Nat.le_refl _);refine⟨h2,fun m _=>?_⟩;rw[CJ (cG hpa) (cG hpb),Int.one_mul];exact h3 m
theorem pK {f g:Nat→T} (r:Int→Int) (hr:r 0=0) {m:M}:∀(u i:Nat),(∀j,i≤j→j<i+u→(g j).m=(f j).m∧(g j).c=r (f j).c)→bX g u i m=r (bX f u i m)
 |0,_,_=>hr.symm
 |u+1,i,h=>by have h0:=h i (Nat.le_refl _) (by omega);rw[bX,bX,h0.1,h0.2,pK r hr u (i+1) (fun j h1 h2=>h j (by omega) (by omega))];split<;>rfl
theorem IE {g:Nat→T} {lb:Nat} (G:Fl g lb):Fl (lL g lb) lb:=by
 refine⟨fun j i hji hi=>?_,fun i hi=>?_⟩
 ·unfold lL;rw[vK _ _ _ _ hi,vK _ _ _ _ (by omega)];exact G.1 j i hji hi
 ·have h:=G.2 i hi;unfold lL;rw[vK _ _ _ _ hi];refine⟨h.1,?_,?_⟩
  ·show 1≤100*(g i).c%101;omega
  ·show 100*(g i).c%101≤100;omega
theorem IU {f g:Nat→T} {la lb:Nat} (hpa:aH la f=true) (hpb:aH lb g=true):aX (cV f la (lL g lb) lb 0 0)∧∀m,m.ok=true→bN (cV f la (lL g lb) lb 0 0) m=eY 100 g (eY 1 f (fun _=>0) la) lb m:=by
 obtain⟨_,h2,h3⟩:=gH (cG hpa) (IE (cG hpb)) (la-0+(lb-0)) 0 0 (Nat.le_refl _);refine⟨h2,fun m _=>?_⟩;rw[CJ (cG hpa) (cG hpb)]
 have h4:=pK (f:=g) (g:=lL g lb) (fun c=>100*c%101) rfl (m:=m) lb 0 (fun j _ hj=>by
  unfold lL;rw[vK _ _ _ _ (by omega)]
  exact⟨rfl,rfl⟩)
 refine(h3 m).trans ?_;rw[Nat.sub_zero,Nat.sub_zero,h4];omega
theorem vS (w:World) (a b:Option Addr) (la ca lb cb:Nat) (f g:Nat→T) (ha:Rd w a la ca f) (hb:Rd w b lb cb g):Calls Tryz.prog 77 #[.slice a la ca,.slice b lb cb] w fun r w'=>∃a' cap',r= .returned (.tuple #[.slice a' (cH f la g lb).1.length cap',.bool (cH f la g lb).2])∧Below w.heap.size w w'∧iJ w.heap.size w' a' cap' (cH f la g lb).1:=by
 have hc:=nY w a b la ca lb cb f g 1 (by omega) (by omega) ha hb (cV f la g lb 0 0) IM;have e:qP 1 f la g lb (cV f la g lb 0 0)=cH f la g lb:=rfl
 rw[e]at hc;have hlen:=mQ f la g lb
 generalize cH f la g lb=r at *;obtain⟨L,ok⟩:=r;go_enter Tryz.func77,Tryz.ntmps77;go_wp2_with (go_at_call 110;refine hc.mono ?_;rintro r w1 ⟨v,rfl,hb1,ho1⟩);refine bC (results_tmp2 rfl _ _ _) rfl ?_;obtain⟨a',cap',rfl,hout⟩:=aO ho1 (by omega);exact⟨a',cap',rfl,hb1,hout⟩
theorem MW (w:World) (a b:Option Addr) (la ca lb cb:Nat) (f g:Nat→T) (ha:Rd w a la ca f) (hb:Rd w b lb cb g):Calls Tryz.prog 113 #[.slice a la ca,.slice b lb cb] w fun r w'=>∃a' cap',r= .returned (.tuple #[.slice a' (gI f la g lb).1.length cap',.bool (gI f la g lb).2])∧Below w.heap.size w w'∧iJ w.heap.size w' a' cap' (gI f la g lb).1:=by
 have hc:=nY w a b la ca lb cb f g 100 (by omega) (by omega) ha hb (cV f la (lL g lb) lb 0 0) IU;have e:qP 100 f la g lb (cV f la (lL g lb) lb 0 0)=gI f la g lb:=rfl
 rw[e]at hc;have hlen:=rV f la g lb
 generalize gI f la g lb=r at *;obtain⟨L,ok⟩:=r;go_enter Tryz.func113,Tryz.ntmps113;go_wp2_with (go_at_call 110;refine hc.mono ?_;rintro r w1 ⟨v,rfl,hb1,ho1⟩);refine bC (results_tmp2 rfl _ _ _) rfl ?_;obtain⟨a',cap',rfl,hout⟩:=aO ho1 (by omega);exact⟨a',cap',rfl,hb1,hout⟩
end Go.Proofs.YtkcmamepoplcdaaGreatDoor
namespace Go.Proofs.YtkcmamepoplcdaaGreatDoor
open Go.RowKit Go.Maps
set_option linter.unusedVariables false
theorem NP (w:World) (a b:Option Addr) (la ca lb cb:Nat) (f g:Nat→T) (ha:Rd w a la ca f) (hb:Rd w b lb cb g):Calls Tryz.prog 78 #[.slice a la ca,.slice b lb cb] w fun r w'=>∃v,r= .returned (.tuple #[v,.bool (aW f la g lb).2])∧Below w.heap.size w w'∧w'.ownsRow w.heap.size 79 5 v (aW f la g lb).1.length (aG (aW f la g lb).1):=by
 have HA:=aA ha;have HB:=aA hb
 have hla:(la:Int)≤140737488351232:=by have:=ha.2.1;omega
 have hlb:(lb:Int)≤140737488351232:=by have:=hb.2.1;omega
 clear ha hb;cases hpa:aH la f
 ·have e1:aW f la g lb=([],false):=by simp[aW,hpa]
  rw[e1];go_enter Tryz.func78,Tryz.ntmps78;go_wp2_with (go_at_call 57;refine(dU _ _ _ _ f HA.out).mono ?_;rw[hpa];rintro r w1 ⟨rfl,hb1⟩;have HB1:=aA hb1;clear hb1);refine bC (results_tmp2 rfl _ _ _) rfl ?_;exact⟨_,rfl,HB1.out,dD w1 _⟩
 ·cases hpb:aH lb g
  ·have e1:aW f la g lb=([],false):=by simp[aW,hpb]
   rw[e1];go_enter Tryz.func78,Tryz.ntmps78
   go_wp2_with (first
    |(go_at_call_of 57 (Value.slice a la ca);refine(dU _ _ _ _ f HA.out).mono ?_;rw[hpa];rintro r w1 ⟨rfl,hb1⟩;have HB1:=aA hb1;clear hb1)
    |(go_at_call_of 57 (Value.slice b lb cb);refine(dU _ _ _ _ g (HB.out.below HB1.out)).mono ?_;rw[hpb];rintro r w2 ⟨rfl,hb2⟩;have HB2:=aA hb2;clear hb2))
   refine bC (results_tmp2 rfl _ _ _) rfl ?_;exact⟨_,rfl,aC HB1.out HB2.out,dD w2 _⟩
  ·have e2:aW f la g lb=fZ (dY f g lb la):=by simp[aW,hpa,hpb]
   rw[e2];clear e2;have l1:la≤400:=by have h:=hpa;simp only[aH,decide_eq_true_eq]at h;exact h.1
   have l2:lb≤400:=by have h:=hpb;simp only[aH,decide_eq_true_eq]at h;exact h.1
   have HPA:=aA hpa;have HPB:=aA hpb
   have hmm:=@run_makeMap Tryz.prog;go_enter Tryz.func78,Tryz.ntmps78
   go_wp2_with (first
    |(go_at_call_of 57 (Value.slice a la ca);refine(dU _ _ _ _ f HA.out).mono ?_;rw[hpa];rintro r w1 ⟨rfl,hb1⟩;have HB1:=aA hb1;clear hb1)
    |(go_at_call_of 57 (Value.slice b lb cb);refine(dU _ _ _ _ g (HB.out.below HB1.out)).mono ?_;rw[hpb];rintro r w2 ⟨rfl,hb2⟩;have HB2:=aA (aC HB1.out hb2);clear hb2))
   clear hpa hpb;have HRA:=aA (HA.out.below HB2.out)
   have HRB:=aA (HB.out.below HB2.out);have HNA:=aA (HRA.out.apart (Nat.le_refl _))
   have HNB:=aA (HRB.out.apart (Nat.le_refl _));have hlo:w.heap.size≤w2.heap.size:=HB2.out.size
   have HS0:=aA ((wG w2).cap);have HG0:=aA (World.grownBy_alloc w2 (.map #[] 0) (some w2.heap.size))
   generalize hw3:w2.alloc (.map #[] 0)=w3 at *;clear hw3 hmm;go_loopw [22] (fun v wr=>∃(i:Nat) (K:List T) (c:M→Int),i≤la∧v= .int .i64 (i:Int)∧dY f g lb i=some K∧aX K∧(∀m,m.ok=true→bN K m=c m)∧eP wr w2.heap.size 65536 c∧w2.grownBy wr (some w2.heap.size)) (fun v _=>la-(intOf v).toNat);case atStart=>exact⟨0,[],fun _=>0,gO _,rfl,rfl,dN,fun _ _=>rfl,HS0.out,HG0.out⟩
   case round=>
    obtain⟨i,K,c,hi,rfl,hM,hKf,hKc,hS,hg⟩:=hrel;by_cases hlt:i<la
    ·have hil:(i:Int)<(la:Int):=by omega
     have hri:=HRA.out.grown hg HNA.out;rcases hri.2.2 with h0|⟨pb,off,hpe,hblt,hcl⟩
     ·omega
     obtain⟨g0,g1,g2,g3,g4⟩:=hcl i hlt;have hfi:=yQ HPA.out hlt
     have HS:=aA hS;have HG:=aA hg
     have HM:=aA hM;clear hcl hri hS hg hM;subst hpe;go_wp2;have hT1:aZ (wr.alloc (.cells #[.int .i64 (f i).c,.int .i64 (f i).m.x,.int .i64 (f i).m.y,.int .i64 (f i).m.d,.int .i64 (f i).m.e] 79)) wr.heap.size (f i):=World.alloc_heap_new wr _
     have HS1:=aA (HS.out.grown (World.grownBy_alloc wr (.cells #[.int .i64 (f i).c,.int .i64 (f i).m.x,.int .i64 (f i).m.y,.int .i64 (f i).m.d,.int .i64 (f i).m.e] 79) none) (by simp));have HG1:=aA (HG.out.trans (World.grownBy_alloc wr (.cells #[.int .i64 (f i).c,.int .i64 (f i).m.x,.int .i64 (f i).m.y,.int .i64 (f i).m.d,.int .i64 (f i).m.e] 79) (some w2.heap.size)))
     have hbl:w2.heap.size<wr.heap.size:=HS.out.lt;have hs1:(wr.alloc (.cells #[.int .i64 (f i).c,.int .i64 (f i).m.x,.int .i64 (f i).m.y,.int .i64 (f i).m.d,.int .i64 (f i).m.e] 79)).heap.size=wr.heap.size+1:=by simp
     clear g0 g1 g2 g3 g4;generalize wr.alloc (.cells #[.int .i64 (f i).c,.int .i64 (f i).m.x,.int .i64 (f i).m.y,.int .i64 (f i).m.d,.int .i64 (f i).m.e] 79)=wi at *;generalize wr.heap.size=Bf at *;go_loopw [28] (fun v wr'=>∃(k:Nat) (K':List T) (c':M→Int),k≤lb∧v= .int .i64 (k:Int)∧hZ K (f i) g k=some K'∧aX K'∧(∀m,m.ok=true→bN K' m=c' m)∧eP wr' w2.heap.size 65536 c'∧w2.grownBy wr' (some w2.heap.size)∧aZ wr' Bf (f i)) (fun v _=>lb-(intOf v).toNat);case atStart=>exact⟨0,K,c,gO _,rfl,rfl,hKf,hKc,HS1.out,HG1.out,hT1⟩
     case round=>
      obtain⟨k,K',c',hk,rfl,hM',hKf',hKc',hS',hg',hT'⟩:=hrel;by_cases hlt2:k<lb
      ·have hkl:(k:Int)<(lb:Int):=by omega
       have hrk:=HRB.out.grown hg' HNB.out;rcases hrk.2.2 with h0|⟨pb2,off2,hpe2,hblt2,hcl2⟩
       ·omega
       obtain⟨g0,g1,g2,g3,g4⟩:=hcl2 k hlt2;obtain⟨t0,t1,t2,t3,t4⟩:=hT'.cells;have hgk:=yQ HPB.out hlt2
       have htl:Bf<wr.heap.size:=(Array.getElem?_eq_some_iff.1 hT').1;have HSk:=aA (hS'.grown (World.grownBy_alloc wr (.cells #[.int .i64 (g k).c,.int .i64 (g k).m.x,.int .i64 (g k).m.y,.int .i64 (g k).m.d,.int .i64 (g k).m.e] 79) none) (by simp))
       have HGk:=aA (hg'.trans (World.grownBy_alloc wr (.cells #[.int .i64 (g k).c,.int .i64 (g k).m.x,.int .i64 (g k).m.y,.int .i64 (g k).m.d,.int .i64 (g k).m.e] 79) (some w2.heap.size)));have HTk:Hid (aZ (wr.alloc (.cells #[.int .i64 (g k).c,.int .i64 (g k).m.x,.int .i64 (g k).m.y,.int .i64 (g k).m.d,.int .i64 (g k).m.e] 79)) Bf (f i)):=(Below.heap_alloc _ _ _ htl).trans hT'
       have HMk:=aA hM';have hcr:=hS'.range
       clear hcl2 hrk hS' hg' hM' hT';subst hpe2;by_cases hok:((f i).m.sum (g k).m).ok=true
       ·have hTwo:kZ (f i) (g k) ((f i).m.sum (g k).m):=kZ.of hfi.1 hgk.1 hok hfi.2 hgk.2;obtain⟨nf,nc⟩:=jI hTwo hKf' hcr hKc';have hcall:=lB _ w2.heap.size c' HSk.out (f i) (g k) hTwo nf nc
        by_cases h4:(dG K' (aU (f i) (g k))).length≤400
        ·have hstep:hZ K (f i) g (k+1)=some (dG K' (aU (f i) (g k))):=by rw[hZ,HMk.out];show bR _ _ _=_;unfold bR;rw[if_pos ⟨hok,h4⟩]
         have HST:=aA hstep;rw[decide_eq_true h4]at hcall;clear hstep;go_wp2_with (go_at_call 111;refine hcall.mono ?_;rintro r w6 ⟨rfl,hs6,hg6⟩;have HS6:=aA hs6;have HG6:=aA hg6;clear hs6 hg6);go_roundw;case rel=>exact⟨k+1,_,_,by omega,by go_num,HST.out,nf,nc,HS6.out,HGk.out.trans HG6.out,(HG6.out.block _ (by simp;omega) (fun e=>by cases e;omega)).trans HTk.out⟩
         case measure=>simp[intOf];omega
        ·have hstep:hZ K (f i) g (k+1)=none:=by rw[hZ,HMk.out];show bR _ _ _=_;unfold bR;rw[if_neg (fun h=>h4 h.2)]
         have hno:dY f g lb la=none:=lV (i:=i+1) (by rw[dY,HM.out];exact mC hstep lb (by omega)) la (by omega);rw[decide_eq_false h4]at hcall;clear hstep;go_wp2_with (go_at_call 111;refine hcall.mono ?_;rintro r w6 ⟨rfl,hs6,hg6⟩;have HG6:=aA hg6;clear hs6 hg6);refine bC (results_tmp2 rfl _ _ _) rfl ?_;rw[hno];exact⟨_,rfl,HB2.out.grown (HGk.out.trans HG6.out) hlo (fun k' e=>by cases e;exact hlo),dD w6 _⟩
       ·have hstep:hZ K (f i) g (k+1)=none:=by rw[hZ,HMk.out];show bR _ _ _=_;unfold bR;rw[if_neg (fun h=>hok h.1)]
        have hno:dY f g lb la=none:=lV (i:=i+1) (by rw[dY,HM.out];exact mC hstep lb (by omega)) la (by omega);have hcall:=CR (wr.alloc (.cells #[.int .i64 (g k).c,.int .i64 (g k).m.x,.int .i64 (g k).m.y,.int .i64 (g k).m.d,.int .i64 (g k).m.e] 79)) w2.heap.size (f i) (g k) hfi.1 hgk.1 (by simpa using hok)
        clear hstep;go_wp2_with (go_at_call 111;refine hcall.mono ?_;rintro r w6 ⟨rfl,hb6⟩;have HG6:=aA (eH hb6 (some w2.heap.size));clear hb6);refine bC (results_tmp2 rfl _ _ _) rfl ?_;rw[hno];exact⟨_,rfl,HB2.out.grown (HGk.out.trans HG6.out) hlo (fun k' e=>by cases e;exact hlo),dD w6 _⟩
      ·obtain rfl:k=lb:=by omega
       have HMk:Hid (dY f g k (i+1)=some K'):=by show _=_;rw[dY,HM.out];exact hM'
       have HSk:=aA hS';have HGk:=aA hg'
       clear hS' hg' hM' hT';go_wp2;go_roundw;case rel=>exact⟨i+1,K',c',by omega,by go_num,HMk.out,hKf',hKc',HSk.out,HGk.out⟩
       case measure=>simp[intOf];omega
    ·obtain rfl:i=la:=by omega
     have hKl:=iX _ _ hM;have e3:fZ (dY f g lb i)=iA K:=by rw[hM];simp[fZ,iA,hKl]
     go_wp2_with (go_at_call 112;refine(wH _ _ _ _ hS (by omega) hKf hKc).mono ?_;rintro r w5 ⟨v,rfl,hb5,ho5⟩);refine bC (results_tmp2 rfl _ _ _) rfl ?_;rw[e3];have hB4:Below w.heap.size w wr:=HB2.out.grown hg hlo (fun k' e=>by cases e;exact hlo)
     exact⟨_,rfl,hB4.trans (hb5.mono hB4.size),dS ho5 hB4.size⟩
theorem wN (w:World) (a b:Option Addr) (la ca lb cb:Nat) (f g:Nat→T) (ha:Rd w a la ca f) (hb:Rd w b lb cb g):Calls Tryz.prog 78 #[.slice a la ca,.slice b lb cb] w fun r w'=>∃a' cap',r= .returned (.tuple #[.slice a' (aW f la g lb).1.length cap',.bool (aW f la g lb).2])∧Below w.heap.size w w'∧iJ w.heap.size w' a' cap' (aW f la g lb).1:=by
 refine(NP w a b la ca lb cb f g ha hb).mono ?_;rintro r w' ⟨v,rfl,hb1,ho1⟩;have hlen:=kQ f la g lb
 obtain⟨a',cap',rfl,hout⟩:=aO ho1 (by omega);exact⟨a',cap',rfl,hb1,hout⟩
end Go.Proofs.YtkcmamepoplcdaaGreatDoor
