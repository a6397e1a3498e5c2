/-
  Turning an operator term by term.
-/
import Derived.Test.YtkcmamepoplcdaaGreatDoorUap
set_option maxHeartbeats 8000000
set_option maxRecDepth 100000
namespace Go.Proofs.YtkcmamepoplcdaaGreatDoor
open Go.RowKit Go.Maps
set_option linter.unusedVariables false
def BF (g:Nat) (lb:Array Value) (st:List T→T→Option (List T)) (Q:World→Prop):Prop:=
 ∀(W:World) (b:Nat) (c:M→Int) (K:List T) (t:T),dQ W b 65536 c→bE K→(∀m,m.ok=true→bG K m=c m)→K.length≤400→(t.m.ok=true∧1≤t.c∧t.c≤100)→Q W→
  Calls Tryz.prog g (#[.map (some b),.agg #[.int .i64 t.c,.int .i64 t.m.x,.int .i64 t.m.y,.int .i64 t.m.d,.int .i64 t.m.e]]++lb) W fun e w'=>W.grownBy w' (some b)∧
   ((∃K' c',st K t=some K'∧e= .returned (.bool true)∧dQ w' b 65536 c'∧bE K'∧∀m,m.ok=true→bG K' m=c' m)∨(st K t=none∧e= .returned (.bool false)))
def rU (K:List T):Option (List T):=if K.length≤400 then some K else none
def fA (st:List T→T→Option (List T)) (f:Nat→T):Nat→Option (List T)
 |0=>some []
 |i+1=>(fA st f i).bind fun K=>(st K (f i)).bind rU
theorem oA {st:List T→T→Option (List T)} {f:Nat→T} {i:Nat} (h:fA st f i=none):∀j,i≤j→fA st f j=none:=fun j hj=>by
 induction j with
 |zero=>
  have e:i=0:=by omega
  rw[e]at h;exact h
 |succ j ih=>
  by_cases e:i=j+1
  ·rw[←e];exact h
  ·rw[fA,ih (by omega)];rfl
theorem mJ {st:List T→T→Option (List T)} {f:Nat→T}:∀i K,fA st f i=some K→K.length≤400
 |0,K,h=>by cases h;exact mE _
 |i+1,K,h=>by
  rw[fA]at h;cases hr:fA st f i with
  |none=>rw[hr]at h;cases h
  |some K1=>
   rw[hr]at h;change (st K1 (f i)).bind rU=some K at h;cases hs:st K1 (f i)with
   |none=>rw[hs]at h;cases h
   |some K2=>
    rw[hs]at h;change rU K2=some K at h;unfold rU at h;split at h
    ·cases h;assumption
    ·cases h
def oN (st:List T→T→Option (List T)) (f:Nat→T) (la:Nat):List T×Bool:=if aJ la f=true then pJ (fA st f la)else([],false)
theorem uJ (st:List T→T→Option (List T)) (f:Nat→T) (la:Nat):(oN st f la).1.length≤400:=by
 unfold oN;split
 ·cases h:fA st f la with
  |none=>simp[pJ]
  |some K=>exact mJ la K h
 ·simp
theorem uI (w:World) (a:Option Addr) (la ca:Nat) (f:Nat→T) (g:Nat) (lb:Array Value) (st:List T→T→Option (List T)) (Q:World→Prop) (eg:∀args w,(callFunc g args).run Tryz.prog w= .ok (.enter g args) w) (hT:BF g lb st Q) (hQ:∀W W' b,Q W→w.heap.size≤b→W.grownBy W' (some b)→Q W') (hQb:∀W',Q w→Below w.heap.size w W'→Q W') (hq:Q w) (ha:Rd w a la ca f):Calls Tryz.prog 118 #[.slice a la ca,.func (.func g) #[] lb] w fun r w'=>∃v,r= .returned (.tuple #[v,.bool (oN st f la).2])∧Below w.heap.size w w'∧w'.ownsRow w.heap.size 79 5 v (oN st f la).1.length (aI (oN st f la).1):=by
 have HA:=aA ha;have HT:=aA hT
 have HQ:=aA hQ;have HQB:=aA hQb
 have hla:(la:Int)≤140737488351232:=by have:=ha.2.1;omega
 clear ha hT hQ hQb;cases hpa:aJ la f
 ·have e1:oN st f la=([],false):=by simp[oN,hpa]
  rw[e1];go_enter Tryz.func118,Tryz.ntmps118;go_wp2_with (go_at_call 57;refine(dA _ _ _ _ f HA.out).mono ?_;rw[hpa];rintro r w1 ⟨rfl,hb1⟩;have HB1:=aA hb1;clear hb1);refine dT (results_tmp2 rfl _ _ _) rfl ?_;exact⟨_,rfl,HB1.out,cL w1 _⟩
 ·have e2:oN st f la=pJ (fA st f la):=by simp[oN,hpa]
  rw[e2];clear e2;have l1:la≤400:=by have h:=hpa;simp only[aJ,decide_eq_true_eq]at h;exact h.1
  have HPA:=aA hpa;have hmm:=@run_makeMap Tryz.prog
  go_enter Tryz.func118,Tryz.ntmps118;go_wp2_with (go_at_call 57;refine(dA _ _ _ _ f HA.out).mono ?_;rw[hpa];rintro r w2 ⟨rfl,hb2⟩;have HB2:=aA hb2;clear hb2);clear hpa;have HRA:=aA (HA.out.below HB2.out)
  have HNA:=aA (HRA.out.apart (Nat.le_refl _));have hlo:w.heap.size≤w2.heap.size:=HB2.out.size
  have HS0:=aA ((sR w2).cap);have HG0:=aA (World.grownBy_alloc w2 (.map #[] 0) (some w2.heap.size))
  have HQ0:=aA (HQ.out _ _ _ (HQB.out w2 hq HB2.out) hlo HG0.out);generalize hw3:w2.alloc (.map #[] 0)=w3 at *;clear hw3 hmm;go_loopw [15] (fun v wr=>∃(i:Nat) (K:List T) (c:M→Int),i≤la∧v= .int .i64 (i:Int)∧fA st f i=some K∧bE K∧(∀m,m.ok=true→bG K m=c m)∧dQ wr w2.heap.size 65536 c∧w2.grownBy wr (some w2.heap.size)∧Q wr) (fun v _=>la-(intOf v).toNat);case atStart=>exact⟨0,[],fun _=>0,mE _,rfl,rfl,gX,fun _ _=>rfl,HS0.out,HG0.out,HQ0.out⟩
  case round=>
   obtain⟨i,K,c,hi,rfl,hM,hKf,hKc,hS,hg,hqr⟩:=hrel;by_cases hlt:i<la
   ·have hil:(i:Int)<(la:Int):=by omega
    have hri:=HRA.out.grown hg HNA.out;rcases hri.2.2 with h0|⟨pb,off,hpe,hblt,hcl⟩
    ·omega
    obtain⟨g0,g1,g2,g3,g4⟩:=hcl i hlt;have hfi:=(dB HPA.out).2 i hlt
    have hKl:=mJ i K hM;have hg1:=World.grownBy_alloc wr (.cells #[.int .i64 (f i).c,.int .i64 (f i).m.x,.int .i64 (f i).m.y,.int .i64 (f i).m.d,.int .i64 (f i).m.e] 79) (some w2.heap.size)
    have hcall:=HT.out (wr.alloc (.cells #[.int .i64 (f i).c,.int .i64 (f i).m.x,.int .i64 (f i).m.y,.int .i64 (f i).m.d,.int .i64 (f i).m.e] 79)) w2.heap.size c K (f i) (hS.grown (World.grownBy_alloc wr (.cells #[.int .i64 (f i).c,.int .i64 (f i).m.x,.int .i64 (f i).m.y,.int .i64 (f i).m.d,.int .i64 (f i).m.e] 79) none) (by simp)) hKf hKc hKl hfi (HQ.out _ _ _ hqr hlo hg1);have HC:=aA hcall
    have HS:=aA hS;have HG:=aA (hg.trans hg1)
    have HM:=aA hM;have HQR:=aA (HQ.out _ _ _ hqr hlo hg1)
    clear hcl hri hS hg hM hg1 hcall hqr;subst hpe;go_wp2_with fail;refine HC.out.mono ?_;rintro r w4 ⟨hg4,(⟨K',c',hst,rfl,hs4,hf4,hc4⟩|⟨hst,rfl⟩)⟩
    ·have HS4:=aA hs4;have HG4:=aA (HG.out.trans hg4)
     have HQ4:=aA (HQ.out _ _ _ HQR.out hlo hg4);obtain⟨D,ho,hcr,hat,hks⟩:=hs4;have hsz:=sK ho hat hks hf4 hc4
     have hlen:=ho.len Tryz.underlying120 3;rw[hsz]at hlen;clear ho hat hks hcr hg4 hsz;by_cases h4:K'.length≤400
     ·have h4':(K'.length:Int)≤400:=by omega
      have HST:Hid (fA st f (i+1)=some K'):=by
       show _=_;rw[fA,HM.out];show(st K (f i)).bind rU=_
       rw[hst];show rU K'=_
       exact if_pos h4
      go_wp2;go_roundw;case rel=>exact⟨i+1,K',c',by omega,by go_num,HST.out,hf4,hc4,HS4.out,HG4.out,HQ4.out⟩
      case measure=>simp[intOf];omega
     ·have h4':(400:Int)<(K'.length:Int):=by omega
      have hno:fA st f la=none:=oA (i:=i+1) (by
       rw[fA,HM.out];show(st K (f i)).bind rU=_
       rw[hst];show rU K'=_
       exact if_neg h4) la (by omega)
      go_wp2;refine dT (results_tmp2 rfl _ _ _) rfl ?_;rw[hno];exact⟨_,rfl,HB2.out.grown HG4.out hlo (fun k' e=>by cases e;exact hlo),cL w4 _⟩
    ·have hno:fA st f la=none:=oA (i:=i+1) (by
      rw[fA,HM.out];show(st K (f i)).bind rU=_
      rw[hst]
      rfl) la (by omega)
     have HG4:=aA (HG.out.trans hg4);clear hg4;go_wp2;refine dT (results_tmp2 rfl _ _ _) rfl ?_;rw[hno];exact⟨_,rfl,HB2.out.grown HG4.out hlo (fun k' e=>by cases e;exact hlo),cL w4 _⟩
   ·obtain rfl:i=la:=by omega
    have hKl:=mJ _ _ hM;have e3:pJ (fA st f i)=fO K:=by rw[hM];simp[pJ,fO,hKl]
    go_wp2_with (go_at_call 112;refine(sS _ _ _ _ hS (by omega) hKf hKc).mono ?_;rintro r w5 ⟨v,rfl,hb5,ho5⟩);refine dT (results_tmp2 rfl _ _ _) rfl ?_;rw[e3];have hB4:Below w.heap.size w wr:=HB2.out.grown hg hlo (fun k' e=>by cases e;exact hlo)
    exact⟨_,rfl,hB4.trans (hb5.mono hB4.size),fH ho5 hB4.size⟩
def JR (n:Int):Int:=if n%2=0 then 1 else 100
theorem zZ (n:Int):0≤JR n∧JR n≤100:=by unfold JR;split<;>omega
theorem DP:∀n:Nat,pw 100 n=JR (n:Int)
 |0=>rfl
 |n+1=>by rw[pw,DP n];unfold JR;split<;>split<;>omega
def sg (t:T) (n:Int):Int:=t.c*JR n%101
theorem vB (t:T) (n:Int):0≤sg t n∧sg t n≤100:=by unfold sg;omega
abbrev B5 (b:Nat) (t:T) (u:World):Prop:=u.cell? ⟨b,0,none⟩=some (.int .i64 t.c)∧u.cell? ⟨b,1,none⟩=some (.int .i64 t.m.x)∧u.cell? ⟨b,2,none⟩=some (.int .i64 t.m.y)∧u.cell? ⟨b,3,none⟩=some (.int .i64 t.m.d)∧u.cell? ⟨b,4,none⟩=some (.int .i64 t.m.e)
theorem B5.below {b:Nat} {t:T} {u u':World} (h:B5 b t u) (hb:Below u.heap.size u u') (h2:b<u.heap.size):B5 b t u':=
 ⟨(hb.cell (p:=⟨b,0,none⟩) h2).trans h.1,(hb.cell (p:=⟨b,1,none⟩) h2).trans h.2.1,(hb.cell (p:=⟨b,2,none⟩) h2).trans h.2.2.1,(hb.cell (p:=⟨b,3,none⟩) h2).trans h.2.2.2.1,(hb.cell (p:=⟨b,4,none⟩) h2).trans h.2.2.2.2⟩
theorem B5.lt {b:Nat} {t:T} {u:World} (h:B5 b t u):b<u.heap.size:=AY u ⟨b,0,none⟩ h.1
theorem B5.box (w:World) (t:T):B5 w.heap.size t (w.alloc (.cells #[.int .i64 t.c,.int .i64 t.m.x,.int .i64 t.m.y,.int .i64 t.m.d,.int .i64 t.m.e] 79)):=by refine⟨?_,?_,?_,?_,?_⟩<;>(rw[World.cell?_alloc_at _ _ _ _ rfl];rfl)
theorem B5.far {w:World} {b o b' o':Nat} {v:Value} (h:b'≠b):(w.setCell ⟨b,o,none⟩ v).cell? ⟨b',o',none⟩=w.cell? ⟨b',o',none⟩:=nG (w:=w) (Below.heap_setCell _ _ _ _ h)
theorem B5.set {b g o:Nat} {t:T} {u:World} (h:B5 b t u) (hg:b≠g) (v:Value):B5 b t (u.setCell ⟨g,o,none⟩ v):=
 ⟨(B5.far hg).trans h.1,(B5.far hg).trans h.2.1,(B5.far hg).trans h.2.2.1,(B5.far hg).trans h.2.2.2.1,(B5.far hg).trans h.2.2.2.2⟩
theorem B5.alloc {b:Nat} {t:T} {u:World} (h:B5 b t u) (o:Obj):B5 b t (u.alloc o):=h.below (aF u o) h.lt
theorem B5.set5 {b g:Nat} {t:T} {u:World} (h:B5 b t u) (hg:b≠g) (v0 v1 v2 v3 v4:Value):B5 b t (((((u.setCell ⟨g,0,none⟩ v0).setCell ⟨g,1,none⟩ v1).setCell ⟨g,2,none⟩ v2).setCell ⟨g,3,none⟩ v3).setCell ⟨g,4,none⟩ v4):=
 ((((h.set hg v0).set hg v1).set hg v2).set hg v3).set hg v4
theorem oM (t:T) (n:Int) (w:World) (h0:0≤t.c) (h1:t.c≤100) (n0:0≤n) (n1:n≤1000):Calls Tryz.prog 120 #[.agg #[.int .i64 t.c,.int .i64 t.m.x,.int .i64 t.m.y,.int .i64 t.m.d,.int .i64 t.m.e],.int .i64 n] w fun e w'=>e= .returned (.int .i64 (sg t n))∧Below w.heap.size w w':=by
 have hp:∀u:World,Calls Tryz.prog 152 #[.int .i64 100,.int .i64 n] u fun e w'=>e= .returned (.int .i64 (JR n))∧w'=u:=fun u=>by
  have:=JQ 100 n u (by omega) (by omega) n0 n1
  rwa[DP,Int.toNat_of_nonneg n0]at this
 have hs:=zZ n;have ht:∀u:World,Calls Tryz.prog 151 #[.int .i64 t.c,.int .i64 (JR n)] u fun e w'=>e= .returned (.int .i64 (sg t n))∧w'=u:=fun u=>jT _ _ _ h0 h1 hs.1 hs.2
 obtain⟨q0,q1,q2,q3,q4⟩:=B5.box w t;have hb:=aF w (.cells #[.int .i64 t.c,.int .i64 t.m.x,.int .i64 t.m.y,.int .i64 t.m.d,.int .i64 t.m.e] 79)
 clear hs;go_enter Tryz.func120,Tryz.ntmps120;go_wp2_with fail
 go_region_with (first|(go_at_call 152;refine(hp _).mono ?_;rintro e w' ⟨rfl,hw'⟩;obtain rfl:=hw'.symm;clear hw')|(go_at_call 151;refine(ht _).mono ?_;rintro e w' ⟨rfl,hw'⟩;obtain rfl:=hw'.symm;clear hw'))
 all_goals
  go_wp2;go_ret;exact⟨rfl,hb.drew⟩
def fS (t:T):T:=⟨sg t (t.m.d+t.m.e),⟨0,0,t.m.x,t.m.y⟩⟩
def iQ (t:T):T:=⟨1,⟨t.m.d,t.m.e,0,0⟩⟩
theorem LP {t:T} (h:t.m.ok=true):(fS t).m.ok=true∧(iQ t).m.ok=true:=by obtain⟨x1,x2,y1,y2,d1,d2,e1,e2⟩:=M.ok_iff.1 h;exact⟨M.ok_iff.2 (by dsimp only[fS];omega),M.ok_iff.2 (by dsimp only[iQ];omega)⟩
def gE (K:List T) (t:T):Option (List T):=eX K (fS t) (iQ t)
theorem DX:BF 119 #[] gE (fun _=>True):=by
 intro W b c K t hS hK hKc hl ht _;obtain⟨o1,o2⟩:=LP ht.1;have hdb:=M.ok_iff.1 ht.1
 have hcr:=hS.range;have hsr:=vB t (t.m.d+t.m.e)
 have hwr:IntKind.i64.wrap (t.m.d+t.m.e)=t.m.d+t.m.e:=by rw[IntKind.wrap_i64];omega
 have hnum:∀u:World,Calls Tryz.prog 120 #[.agg #[.int .i64 t.c,.int .i64 t.m.x,.int .i64 t.m.y,.int .i64 t.m.d,.int .i64 t.m.e],.int .i64 (t.m.d+t.m.e)] u fun e w'=>e= .returned (.int .i64 (sg t (t.m.d+t.m.e)))∧Below u.heap.size u w':=fun u=>oM t _ u (by omega) ht.2.2 (by omega) (by omega);have hbox:B5 W.heap.size t (W.alloc (.cells #[.int .i64 t.c,.int .i64 t.m.x,.int .i64 t.m.y,.int .i64 t.m.d,.int .i64 t.m.e] 79)).drew:=B5.box W t
 have hB0:Below W.heap.size W (W.alloc (.cells #[.int .i64 t.c,.int .i64 t.m.x,.int .i64 t.m.y,.int .i64 t.m.d,.int .i64 t.m.e] 79)).drew:=(aF W (.cells #[.int .i64 t.c,.int .i64 t.m.x,.int .i64 t.m.y,.int .i64 t.m.d,.int .i64 t.m.e] 79)).drew;have hs0:(W.alloc (.cells #[.int .i64 t.c,.int .i64 t.m.x,.int .i64 t.m.y,.int .i64 t.m.d,.int .i64 t.m.e] 79)).drew.heap.size=W.heap.size+1:=by simp
 show Calls Tryz.prog 119 #[.map (some b),.agg #[.int .i64 t.c,.int .i64 t.m.x,.int .i64 t.m.y,.int .i64 t.m.d,.int .i64 t.m.e]] W _;go_enter Tryz.func119,Tryz.ntmps119;go_wp2_with fail
 go_region_held3 (fun u=>u.cell? ⟨W.heap.size,0,none⟩=some (.int .i64 t.c)∧u.cell? ⟨W.heap.size,1,none⟩=some (.int .i64 t.m.x)∧u.cell? ⟨W.heap.size,2,none⟩=some (.int .i64 t.m.y)∧u.cell? ⟨W.heap.size,3,none⟩=some (.int .i64 t.m.d)∧u.cell? ⟨W.heap.size,4,none⟩=some (.int .i64 t.m.e)) (first|with_reducible exact hbox|with_reducible exact B5.below (b:=W.heap.size) (t:=t) (by assumption) (by assumption) (B5.lt (t:=t) (by assumption))|with_reducible exact B5.alloc (b:=W.heap.size) (t:=t) (by assumption) _|with_reducible exact B5.set5 (b:=W.heap.size) (t:=t) (by assumption) (by simp) _ _ _ _ _|go_keep) (first|(go_at_call 120;refine(hnum _).mono ?_;rintro e w1 ⟨rfl,hb1⟩;obtain⟨hc1,hf1⟩:=bX hb1))
 ·have hsw:=hb1.size;have hA:B5 w1.heap.size (fS t) (w1.alloc (.cells #[.int .i64 (sg t (t.m.d+t.m.e)),.int .i64 0,.int .i64 0,.int .i64 (t.m.x),.int .i64 (t.m.y)] 79)):=B5.box w1 (fS t)
  have hB2:Below W.heap.size W (w1.alloc (.cells #[.int .i64 (sg t (t.m.d+t.m.e)),.int .i64 0,.int .i64 0,.int .i64 (t.m.x),.int .i64 (t.m.y)] 79)):=(aC hB0 hb1).alloc (by omega) _;clear hc1 hf1 hb1 hnum hbox hB0;generalize w1.alloc (.cells #[.int .i64 (sg t (t.m.d+t.m.e)),.int .i64 0,.int .i64 0,.int .i64 (t.m.x),.int .i64 (t.m.y)] 79)=u2 at *;generalize w1.heap.size=G at *;clear hs0 hsw;have hT:B5 W.heap.size t u2:=by assumption
  have hTl:=hT.lt;have hAl:=hA.lt
  have hok:((fS t).m.sum (iQ t).m).ok=true:=M.ok_iff.2 (by dsimp only[fS,iQ,M.sum];omega);have hTwo:mV (fS t) (iQ t) ((fS t).m.sum (iQ t).m):=mV.of o1 o2 hok hsr ⟨show(0:Int)≤1 by decide,show(1:Int)≤100 by decide⟩
  obtain⟨nf,nc⟩:=gU hTwo hK hcr hKc;have hB3:Below W.heap.size W (u2.alloc (.cells #[.int .i64 1,.int .i64 (t.m.d),.int .i64 (t.m.e),.int .i64 0,.int .i64 0] 79)):=hB2.alloc (by omega) _
  have hcall:=jD (u2.alloc (.cells #[.int .i64 1,.int .i64 (t.m.d),.int .i64 (t.m.e),.int .i64 0,.int .i64 0] 79)) b c (hS.grown (cF hB3) (by simp)) (fS t) (iQ t) hTwo nf nc;have HB3:=aA hB3
  have HST:Hid (gE K t=if(gT K (eL (fS t) (iQ t))).length≤400 then some (gT K (eL (fS t) (iQ t)))else none):=by show eX K _ _=_;unfold eX;simp[hok]
  obtain⟨t0,t1,t2,t3,t4⟩:=hT;obtain⟨a0,a1,a2,a3,a4⟩:=hA;dsimp only[fS]at a0 a1 a2 a3 a4;clear hB2 hB3 hS;go_wp2_with (go_at_call 111;refine hcall.mono ?_;rintro r w6 ⟨rfl,hs6,hg6⟩;have HS6:=aA hs6;have HG6:=aA hg6;clear hs6 hg6);go_ret;refine⟨(dI HB3.out (some b)).trans HG6.out,?_⟩;rw[HST.out];by_cases h4:(gT K (eL (fS t) (iQ t))).length≤400
  ·exact .inl ⟨_,_,if_pos h4,by rw[decide_eq_true h4];rfl,HS6.out,nf,nc⟩
  ·exact .inr ⟨if_neg h4,by rw[decide_eq_false h4];rfl⟩
 ·have hsw:=hb1.size;have hA:B5 (W.heap.size+1) (fS t) (((((w1.setCell ⟨W.heap.size+1,0,none⟩ (.int .i64 (sg t (t.m.d+t.m.e)))).setCell ⟨W.heap.size+1,1,none⟩ (.int .i64 0)).setCell ⟨W.heap.size+1,2,none⟩ (.int .i64 0)).setCell ⟨W.heap.size+1,3,none⟩ (.int .i64 t.m.x)).setCell ⟨W.heap.size+1,4,none⟩ (.int .i64 t.m.y)):=by refine⟨?_,?_,?_,?_,?_⟩<;>go_simp<;>rfl
  have hB2:Below W.heap.size W (((((w1.setCell ⟨W.heap.size+1,0,none⟩ (.int .i64 (sg t (t.m.d+t.m.e)))).setCell ⟨W.heap.size+1,1,none⟩ (.int .i64 0)).setCell ⟨W.heap.size+1,2,none⟩ (.int .i64 0)).setCell ⟨W.heap.size+1,3,none⟩ (.int .i64 t.m.x)).setCell ⟨W.heap.size+1,4,none⟩ (.int .i64 t.m.y)):=((((((aC (hB0.alloc (by simp) (.cells #[.int .i64 0,.int .i64 0,.int .i64 0,.int .i64 0,.int .i64 0] 79)) hb1).setCell (by simp) _).setCell (by simp) _).setCell (by simp) _).setCell (by simp) _).setCell (by simp) _)
  clear hc1 hf1 hb1 hnum hbox hB0 hs0 hsw;generalize(((((w1.setCell ⟨W.heap.size+1,0,none⟩ (.int .i64 (sg t (t.m.d+t.m.e)))).setCell ⟨W.heap.size+1,1,none⟩ (.int .i64 0)).setCell ⟨W.heap.size+1,2,none⟩ (.int .i64 0)).setCell ⟨W.heap.size+1,3,none⟩ (.int .i64 t.m.x)).setCell ⟨W.heap.size+1,4,none⟩ (.int .i64 t.m.y))=u2 at *;have hT:B5 W.heap.size t u2:=by assumption
  generalize hG:W.heap.size+1=G at *;have hTl:=hT.lt
  have hAl:=hA.lt;have hok:((fS t).m.sum (iQ t).m).ok=true:=M.ok_iff.2 (by dsimp only[fS,iQ,M.sum];omega)
  have hTwo:mV (fS t) (iQ t) ((fS t).m.sum (iQ t).m):=mV.of o1 o2 hok hsr ⟨show(0:Int)≤1 by decide,show(1:Int)≤100 by decide⟩;obtain⟨nf,nc⟩:=gU hTwo hK hcr hKc;have hB3:Below W.heap.size W (u2.alloc (.cells #[.int .i64 1,.int .i64 (t.m.d),.int .i64 (t.m.e),.int .i64 0,.int .i64 0] 79)):=hB2.alloc (by omega) _
  have hcall:=jD (u2.alloc (.cells #[.int .i64 1,.int .i64 (t.m.d),.int .i64 (t.m.e),.int .i64 0,.int .i64 0] 79)) b c (hS.grown (cF hB3) (by simp)) (fS t) (iQ t) hTwo nf nc;have HB3:=aA hB3
  have HST:Hid (gE K t=if(gT K (eL (fS t) (iQ t))).length≤400 then some (gT K (eL (fS t) (iQ t)))else none):=by show eX K _ _=_;unfold eX;simp[hok]
  obtain⟨t0,t1,t2,t3,t4⟩:=hT;obtain⟨a0,a1,a2,a3,a4⟩:=hA;dsimp only[fS]at a0 a1 a2 a3 a4;clear hB2 hB3 hS;go_wp2_with (go_at_call 111;refine hcall.mono ?_;rintro r w6 ⟨rfl,hs6,hg6⟩;have HS6:=aA hs6;have HG6:=aA hg6;clear hs6 hg6);go_ret;refine⟨(dI HB3.out (some b)).trans HG6.out,?_⟩;rw[HST.out];by_cases h4:(gT K (eL (fS t) (iQ t))).length≤400
  ·exact .inl ⟨_,_,if_pos h4,by rw[decide_eq_true h4];rfl,HS6.out,nf,nc⟩
  ·exact .inr ⟨if_neg h4,by rw[decide_eq_false h4];rfl⟩
def fP (t:T):T:=⟨sg t (t.m.d+t.m.e),⟨0,0,t.m.d,t.m.e⟩⟩
def iE (t:T):T:=⟨1,⟨t.m.x,t.m.y,0,0⟩⟩
theorem KD {t:T} (h:t.m.ok=true):(fP t).m.ok=true∧(iE t).m.ok=true:=by obtain⟨x1,x2,y1,y2,d1,d2,e1,e2⟩:=M.ok_iff.1 h;exact⟨M.ok_iff.2 (by dsimp only[fP];omega),M.ok_iff.2 (by dsimp only[iE];omega)⟩
def hO (K:List T) (t:T):Option (List T):=eX K (fP t) (iE t)
theorem BQ:BF 121 #[] hO (fun _=>True):=by
 intro W b c K t hS hK hKc hl ht _;obtain⟨o1,o2⟩:=KD ht.1;have hdb:=M.ok_iff.1 ht.1
 have hcr:=hS.range;have hsr:=vB t (t.m.d+t.m.e)
 have hwr:IntKind.i64.wrap (t.m.d+t.m.e)=t.m.d+t.m.e:=by rw[IntKind.wrap_i64];omega
 have hnum:∀u:World,Calls Tryz.prog 120 #[.agg #[.int .i64 t.c,.int .i64 t.m.x,.int .i64 t.m.y,.int .i64 t.m.d,.int .i64 t.m.e],.int .i64 (t.m.d+t.m.e)] u fun e w'=>e= .returned (.int .i64 (sg t (t.m.d+t.m.e)))∧Below u.heap.size u w':=fun u=>oM t _ u (by omega) ht.2.2 (by omega) (by omega);have hbox:B5 W.heap.size t (W.alloc (.cells #[.int .i64 t.c,.int .i64 t.m.x,.int .i64 t.m.y,.int .i64 t.m.d,.int .i64 t.m.e] 79)).drew:=B5.box W t
 have hB0:Below W.heap.size W (W.alloc (.cells #[.int .i64 t.c,.int .i64 t.m.x,.int .i64 t.m.y,.int .i64 t.m.d,.int .i64 t.m.e] 79)).drew:=(aF W (.cells #[.int .i64 t.c,.int .i64 t.m.x,.int .i64 t.m.y,.int .i64 t.m.d,.int .i64 t.m.e] 79)).drew;have hs0:(W.alloc (.cells #[.int .i64 t.c,.int .i64 t.m.x,.int .i64 t.m.y,.int .i64 t.m.d,.int .i64 t.m.e] 79)).drew.heap.size=W.heap.size+1:=by simp
 show Calls Tryz.prog 121 #[.map (some b),.agg #[.int .i64 t.c,.int .i64 t.m.x,.int .i64 t.m.y,.int .i64 t.m.d,.int .i64 t.m.e]] W _;go_enter Tryz.func121,Tryz.ntmps121;go_wp2_with fail
 go_region_held3 (fun u=>u.cell? ⟨W.heap.size,0,none⟩=some (.int .i64 t.c)∧u.cell? ⟨W.heap.size,1,none⟩=some (.int .i64 t.m.x)∧u.cell? ⟨W.heap.size,2,none⟩=some (.int .i64 t.m.y)∧u.cell? ⟨W.heap.size,3,none⟩=some (.int .i64 t.m.d)∧u.cell? ⟨W.heap.size,4,none⟩=some (.int .i64 t.m.e)) (first|with_reducible exact hbox|with_reducible exact B5.below (b:=W.heap.size) (t:=t) (by assumption) (by assumption) (B5.lt (t:=t) (by assumption))|with_reducible exact B5.alloc (b:=W.heap.size) (t:=t) (by assumption) _|with_reducible exact B5.set5 (b:=W.heap.size) (t:=t) (by assumption) (by simp) _ _ _ _ _|go_keep) (first|(go_at_call 120;refine(hnum _).mono ?_;rintro e w1 ⟨rfl,hb1⟩;obtain⟨hc1,hf1⟩:=bX hb1))
 ·have hsw:=hb1.size;have hA:B5 w1.heap.size (fP t) (w1.alloc (.cells #[.int .i64 (sg t (t.m.d+t.m.e)),.int .i64 0,.int .i64 0,.int .i64 (t.m.d),.int .i64 (t.m.e)] 79)):=B5.box w1 (fP t)
  have hB2:Below W.heap.size W (w1.alloc (.cells #[.int .i64 (sg t (t.m.d+t.m.e)),.int .i64 0,.int .i64 0,.int .i64 (t.m.d),.int .i64 (t.m.e)] 79)):=(aC hB0 hb1).alloc (by omega) _;clear hc1 hf1 hb1 hnum hbox hB0;generalize w1.alloc (.cells #[.int .i64 (sg t (t.m.d+t.m.e)),.int .i64 0,.int .i64 0,.int .i64 (t.m.d),.int .i64 (t.m.e)] 79)=u2 at *;generalize w1.heap.size=G at *;clear hs0 hsw;have hT:B5 W.heap.size t u2:=by assumption
  have hTl:=hT.lt;have hAl:=hA.lt
  have hok:((fP t).m.sum (iE t).m).ok=true:=M.ok_iff.2 (by dsimp only[fP,iE,M.sum];omega);have hTwo:mV (fP t) (iE t) ((fP t).m.sum (iE t).m):=mV.of o1 o2 hok hsr ⟨show(0:Int)≤1 by decide,show(1:Int)≤100 by decide⟩
  obtain⟨nf,nc⟩:=gU hTwo hK hcr hKc;have hB3:Below W.heap.size W (u2.alloc (.cells #[.int .i64 1,.int .i64 (t.m.x),.int .i64 (t.m.y),.int .i64 0,.int .i64 0] 79)):=hB2.alloc (by omega) _
  have hcall:=jD (u2.alloc (.cells #[.int .i64 1,.int .i64 (t.m.x),.int .i64 (t.m.y),.int .i64 0,.int .i64 0] 79)) b c (hS.grown (cF hB3) (by simp)) (fP t) (iE t) hTwo nf nc;have HB3:=aA hB3
  have HST:Hid (hO K t=if(gT K (eL (fP t) (iE t))).length≤400 then some (gT K (eL (fP t) (iE t)))else none):=by show eX K _ _=_;unfold eX;simp[hok]
  obtain⟨t0,t1,t2,t3,t4⟩:=hT;obtain⟨a0,a1,a2,a3,a4⟩:=hA;dsimp only[fP]at a0 a1 a2 a3 a4;clear hB2 hB3 hS;go_wp2_with (go_at_call 111;refine hcall.mono ?_;rintro r w6 ⟨rfl,hs6,hg6⟩;have HS6:=aA hs6;have HG6:=aA hg6;clear hs6 hg6);go_ret;refine⟨(dI HB3.out (some b)).trans HG6.out,?_⟩;rw[HST.out];by_cases h4:(gT K (eL (fP t) (iE t))).length≤400
  ·exact .inl ⟨_,_,if_pos h4,by rw[decide_eq_true h4];rfl,HS6.out,nf,nc⟩
  ·exact .inr ⟨if_neg h4,by rw[decide_eq_false h4];rfl⟩
 ·have hsw:=hb1.size;have hA:B5 (W.heap.size+1) (fP t) (((((w1.setCell ⟨W.heap.size+1,0,none⟩ (.int .i64 (sg t (t.m.d+t.m.e)))).setCell ⟨W.heap.size+1,1,none⟩ (.int .i64 0)).setCell ⟨W.heap.size+1,2,none⟩ (.int .i64 0)).setCell ⟨W.heap.size+1,3,none⟩ (.int .i64 t.m.d)).setCell ⟨W.heap.size+1,4,none⟩ (.int .i64 t.m.e)):=by refine⟨?_,?_,?_,?_,?_⟩<;>go_simp<;>rfl
  have hB2:Below W.heap.size W (((((w1.setCell ⟨W.heap.size+1,0,none⟩ (.int .i64 (sg t (t.m.d+t.m.e)))).setCell ⟨W.heap.size+1,1,none⟩ (.int .i64 0)).setCell ⟨W.heap.size+1,2,none⟩ (.int .i64 0)).setCell ⟨W.heap.size+1,3,none⟩ (.int .i64 t.m.d)).setCell ⟨W.heap.size+1,4,none⟩ (.int .i64 t.m.e)):=((((((aC (hB0.alloc (by simp) (.cells #[.int .i64 0,.int .i64 0,.int .i64 0,.int .i64 0,.int .i64 0] 79)) hb1).setCell (by simp) _).setCell (by simp) _).setCell (by simp) _).setCell (by simp) _).setCell (by simp) _)
  clear hc1 hf1 hb1 hnum hbox hB0 hs0 hsw;generalize(((((w1.setCell ⟨W.heap.size+1,0,none⟩ (.int .i64 (sg t (t.m.d+t.m.e)))).setCell ⟨W.heap.size+1,1,none⟩ (.int .i64 0)).setCell ⟨W.heap.size+1,2,none⟩ (.int .i64 0)).setCell ⟨W.heap.size+1,3,none⟩ (.int .i64 t.m.d)).setCell ⟨W.heap.size+1,4,none⟩ (.int .i64 t.m.e))=u2 at *;have hT:B5 W.heap.size t u2:=by assumption
  generalize hG:W.heap.size+1=G at *;have hTl:=hT.lt
  have hAl:=hA.lt;have hok:((fP t).m.sum (iE t).m).ok=true:=M.ok_iff.2 (by dsimp only[fP,iE,M.sum];omega)
  have hTwo:mV (fP t) (iE t) ((fP t).m.sum (iE t).m):=mV.of o1 o2 hok hsr ⟨show(0:Int)≤1 by decide,show(1:Int)≤100 by decide⟩;obtain⟨nf,nc⟩:=gU hTwo hK hcr hKc;have hB3:Below W.heap.size W (u2.alloc (.cells #[.int .i64 1,.int .i64 (t.m.x),.int .i64 (t.m.y),.int .i64 0,.int .i64 0] 79)):=hB2.alloc (by omega) _
  have hcall:=jD (u2.alloc (.cells #[.int .i64 1,.int .i64 (t.m.x),.int .i64 (t.m.y),.int .i64 0,.int .i64 0] 79)) b c (hS.grown (cF hB3) (by simp)) (fP t) (iE t) hTwo nf nc;have HB3:=aA hB3
  have HST:Hid (hO K t=if(gT K (eL (fP t) (iE t))).length≤400 then some (gT K (eL (fP t) (iE t)))else none):=by show eX K _ _=_;unfold eX;simp[hok]
  obtain⟨t0,t1,t2,t3,t4⟩:=hT;obtain⟨a0,a1,a2,a3,a4⟩:=hA;dsimp only[fP]at a0 a1 a2 a3 a4;clear hB2 hB3 hS;go_wp2_with (go_at_call 111;refine hcall.mono ?_;rintro r w6 ⟨rfl,hs6,hg6⟩;have HS6:=aA hs6;have HG6:=aA hg6;clear hs6 hg6);go_ret;refine⟨(dI HB3.out (some b)).trans HG6.out,?_⟩;rw[HST.out];by_cases h4:(gT K (eL (fP t) (iE t))).length≤400
  ·exact .inl ⟨_,_,if_pos h4,by rw[decide_eq_true h4];rfl,HS6.out,nf,nc⟩
  ·exact .inr ⟨if_neg h4,by rw[decide_eq_false h4];rfl⟩
def dK (f:Nat→T) (n:Nat):List T×Bool:=oN gE f n
theorem rV (f:Nat→T) (n:Nat):(dK f n).1.length≤400:=uJ _ _ _
theorem zL (w:World) (a:Option Addr) (n cap:Nat) (f:Nat→T) (ha:Rd w a n cap f):Calls Tryz.prog 81 #[.slice a n cap] w fun r w'=>∃a' cap',r= .returned (.tuple #[.slice a' (dK f n).1.length cap',.bool (dK f n).2])∧Below w.heap.size w w'∧gO w.heap.size w' a' cap' (dK f n).1:=by
 have hc:=uI w a n cap f 119 #[] gE (fun _=>True) (enters_of Tryz.func119 (by kernel_rfl) rfl) DX (fun _ _ _ _ _ _=>trivial) (fun _ _ _=>trivial) trivial ha;change Calls Tryz.prog 118 #[.slice a n cap,.func (.func 119) #[] #[]] w fun r w'=>∃v,r= .returned (.tuple #[v,.bool (dK f n).2])∧Below w.heap.size w w'∧w'.ownsRow w.heap.size 79 5 v (dK f n).1.length (aI (dK f n).1)at hc;have hlen:=rV f n
 generalize dK f n=V at hc hlen⊢;go_enter Tryz.func81,Tryz.ntmps81;go_wp2_with (go_at_call 118;refine hc.mono ?_;rintro r w1 ⟨v,rfl,hb1,ho1⟩);refine dT (results_tmp2 rfl _ _ _) rfl ?_;obtain⟨a',cap',rfl,hout⟩:=aR ho1 (by omega);exact⟨a',cap',rfl,hb1,hout⟩
def eR (f:Nat→T) (n:Nat):List T×Bool:=oN hO f n
theorem uH (f:Nat→T) (n:Nat):(eR f n).1.length≤400:=uJ _ _ _
theorem DC (w:World) (a:Option Addr) (n cap:Nat) (f:Nat→T) (ha:Rd w a n cap f):Calls Tryz.prog 82 #[.slice a n cap] w fun r w'=>∃a' cap',r= .returned (.tuple #[.slice a' (eR f n).1.length cap',.bool (eR f n).2])∧Below w.heap.size w w'∧gO w.heap.size w' a' cap' (eR f n).1:=by
 have hc:=uI w a n cap f 121 #[] hO (fun _=>True) (enters_of Tryz.func121 (by kernel_rfl) rfl) BQ (fun _ _ _ _ _ _=>trivial) (fun _ _ _=>trivial) trivial ha;change Calls Tryz.prog 118 #[.slice a n cap,.func (.func 121) #[] #[]] w fun r w'=>∃v,r= .returned (.tuple #[v,.bool (eR f n).2])∧Below w.heap.size w w'∧w'.ownsRow w.heap.size 79 5 v (eR f n).1.length (aI (eR f n).1)at hc;have hlen:=uH f n
 generalize eR f n=V at hc hlen⊢;go_enter Tryz.func82,Tryz.ntmps82;go_wp2_with (go_at_call 118;refine hc.mono ?_;rintro r w1 ⟨v,rfl,hb1,ho1⟩);refine dT (results_tmp2 rfl _ _ _) rfl ?_;obtain⟨a',cap',rfl,hout⟩:=aR ho1 (by omega);exact⟨a',cap',rfl,hb1,hout⟩
end Go.Proofs.YtkcmamepoplcdaaGreatDoor
namespace Go.Proofs.YtkcmamepoplcdaaGreatDoor
open Go.RowKit
set_option linter.unusedVariables false
def ND:Nat→T:=fun _=>⟨0,⟨0,0,0,0⟩⟩
def aT (k to a b:Int) (p:List T) (m:Nat) (ln:Nat→Nat) (F:Nat→Nat→T):List T×Bool:=
 if m=6∧dH k to a b p.length (lf p)≠[]then
  if k=1 then(p,true)
  else if k=2 then cO (F a.toNat) (ln a.toNat) (F b.toNat) (ln b.toNat)
  else if k=3 then bV (F a.toNat) (ln a.toNat) (F b.toNat) (ln b.toNat)
  else if k=4 then gF (F a.toNat) (ln a.toNat) (F b.toNat) (ln b.toNat)
  else if k=5 then iV (F a.toNat) (ln a.toNat) (F b.toNat) (ln b.toNat)
  else if k=6 then dK (F a.toNat) (ln a.toNat)
  else if k=7 then eR (F a.toNat) (ln a.toNat)
  else cO (F to.toNat) (ln to.toNat) ND 0
 else([],false)
theorem CB {k to a b:Int} {p:List T} {m:Nat} {ln:Nat→Nat} {F:Nat→Nat→T} (h:¬(m=6∧dH k to a b p.length (lf p)≠[])):aT k to a b p m ln F=([],false):=if_neg h
theorem IA {k to a b:Int} {n:Nat} {f:Nat→T} (h:dH k to a b n f≠[]):pL k to a b n f=true:=by
 cases e:pL k to a b n f
 ·exact absurd (aP e) h
 ·rfl
theorem dD {k to a b:Int} {n:Nat} {f:Nat→T} (h:dH k to a b n f≠[]):(1≤k∧k≤8)∧(0≤to∧to≤5)∧(0≤a∧a≤5)∧(0≤b∧b≤5)∧aJ n f=true:=by have:=of_decide_eq_true (IA h);exact⟨this.1,this.2.1,this.2.2.1,this.2.2.2.1,this.2.2.2.2.1⟩
theorem pP (f:Nat→T) (la:Nat) (g:Nat→T):∀u i,la-i=u→cR f la g 0 i 0=(List.range' i u).map f
 |0,i,h=>by rw[tI (by omega) (by omega)];rfl
 |u+1,i,h=>by rw[rK (by omega) (.inl (by omega)),pP f la g u (i+1) (by omega)];rfl
theorem KY (p:List T):(List.range' 0 p.length).map (lf p)=p:=by refine List.ext_getElem (by simp) (fun i h1 h2=>?_);simp[lf,List.getD_eq_getElem?_getD,List.getElem?_eq_getElem h2]
theorem jP {p:List T} {g:Nat→T} (h:aJ p.length (lf p)=true):cO (lf p) p.length g 0=(p,true):=by
 have e:cR (lf p) p.length g 0 0 0=p:=by rw[pP (lf p) p.length g p.length 0 (by omega),KY]
 have hl:p.length≤400:=(cN h).1;have h0:aJ 0 g=true:=by simp[aJ]
 unfold cO;rw[e,if_pos ⟨h,h0,hl⟩]
theorem nS (w:World) (g:Nat→T):Rd w none 0 0 g:=⟨Nat.le_refl _,by omega,.inl rfl⟩
abbrev tD (B sb:Nat) (x y:Int) (off A C:Nat) (u v:Value) (w:World):Prop:=
 w.cell? ⟨B,2,none⟩=some (.int .i64 x)∧w.cell? ⟨B,3,none⟩=some (.int .i64 y)∧w.cell? ⟨sb,off+A,none⟩=some u∧w.cell? ⟨sb,off+C,none⟩=some v
end Go.Proofs.YtkcmamepoplcdaaGreatDoor
