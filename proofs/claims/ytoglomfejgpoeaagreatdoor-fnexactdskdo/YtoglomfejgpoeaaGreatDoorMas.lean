/-
  Turning an operator term by term.
  Turning an operator round, and back: the program.
  Turning an operator round, and back: the model, and what the program answers.
-/
import Derived.Test.YtoglomfejgpoeaaGreatDoorMap
set_option maxHeartbeats 16000000
set_option maxRecDepth 100000
namespace Go.Proofs.YtoglomfejgpoeaaGreatDoor
open Go.RowKit Go.Maps
set_option linter.unusedVariables false
def yQ (g:Nat) (lb:Array Value) (st:List T→T→Option (List T)) (Q:World→Prop):Prop:=
 ∀(W:World) (b:Nat) (c:M→Int) (K:List T) (t:T),eF W b 65536 c→aV K→(∀m,m.ok=true→bY K m=c m)→K.length≤400→(t.m.ok=true∧1≤t.c∧t.c≤100)→Q W→
  Calls Tryz.prog g (#[.map (some b),.agg #[.int .i64 t.c,.int .i64 t.m.x,.int .i64 t.m.y,.int .i64 t.m.d,.int .i64 t.m.e]]++lb) W fun e w'=>W.grownBy w' (some b)∧
   ((∃K' c',st K t=some K'∧e= .returned (.bool true)∧eF w' b 65536 c'∧aV K'∧∀m,m.ok=true→bY K' m=c' m)∨(st K t=none∧e= .returned (.bool false)))
def jP (K:List T):Option (List T):=if K.length≤400 then some K else none
def cQ (st:List T→T→Option (List T)) (f:Nat→T):Nat→Option (List T)
 |0=>some []
 |i+1=>(cQ st f i).bind fun K=>(st K (f i)).bind jP
theorem iN {st:List T→T→Option (List T)} {f:Nat→T} {i:Nat} (h:cQ st f i=none):∀j,i≤j→cQ st f j=none:=fun j hj=>by
 induction j with
 |zero=>
  have e:i=0:=by omega
  rw[e]at h;exact h
 |succ j ih=>
  by_cases e:i=j+1
  ·rw[←e];exact h
  ·rw[cQ,ih (by omega)];rfl
theorem gK {st:List T→T→Option (List T)} {f:Nat→T}:∀i K,cQ st f i=some K→K.length≤400
 |0,K,h=>by cases h;exact gC _
 |i+1,K,h=>by
  rw[cQ]at h;cases hr:cQ st f i with
  |none=>rw[hr]at h;cases h
  |some K1=>
   rw[hr]at h;change (st K1 (f i)).bind jP=some K at h;cases hs:st K1 (f i)with
   |none=>rw[hs]at h;cases h
   |some K2=>
    rw[hs]at h;change jP K2=some K at h;unfold jP at h;split at h
    ·cases h;assumption
    ·cases h
def iS (st:List T→T→Option (List T)) (f:Nat→T) (la:Nat):List T×Bool:=if aN la f=true then eH (cQ st f la)else([],false)
theorem tL (st:List T→T→Option (List T)) (f:Nat→T) (la:Nat):(iS st f la).1.length≤400:=by
 unfold iS;split
 ·cases h:cQ st f la with
  |none=>simp[eH]
  |some K=>exact gK la K h
 ·simp
theorem tK (w:World) (a:Option Addr) (la ca:Nat) (f:Nat→T) (g:Nat) (lb:Array Value) (st:List T→T→Option (List T)) (Q:World→Prop) (eg:∀args w,(callFunc g args).run Tryz.prog w= .ok (.enter g args) w) (hT:yQ g lb st Q) (hQ:∀W W' b,Q W→w.heap.size≤b→W.grownBy W' (some b)→Q W') (hQb:∀W',Q w→Below w.heap.size w W'→Q W') (hq:Q w) (ha:Rd w a la ca f):Calls Tryz.prog 86 #[.slice a la ca,.func (.func g) #[] lb] w fun r w'=>∃v,r= .returned (.tuple #[v,.bool (iS st f la).2])∧Below w.heap.size w w'∧w'.ownsRow w.heap.size 80 5 v (iS st f la).1.length (aF (iS st f la).1):=by
 have HA:=aA ha;have HT:=aA hT
 have HQ:=aA hQ;have HQB:=aA hQb
 have hla:(la:Int)≤140737488351232:=by have:=ha.2.1;omega
 clear ha hT hQ hQb;cases hpa:aN la f
 ·have e1:iS st f la=([],false):=by simp[iS,hpa]
  rw[e1];go_enter Tryz.func86,Tryz.ntmps86;go_wp2_with (go_at_call 44;refine(dM _ _ _ _ f HA.out).mono ?_;rw[hpa];rintro r w1 ⟨rfl,hb1⟩;have HB1:=aA hb1;clear hb1);refine bT (results_tmp2 rfl _ _ _) rfl ?_;exact⟨_,rfl,HB1.out,dQ w1 _⟩
 ·have e2:iS st f la=eH (cQ st f la):=by simp[iS,hpa]
  rw[e2];clear e2;have l1:la≤400:=by have h:=hpa;simp only[aN,decide_eq_true_eq]at h;exact h.1
  have HPA:=aA hpa;have hmm:=@run_makeMap Tryz.prog
  go_enter Tryz.func86,Tryz.ntmps86;go_wp2_with (go_at_call 44;refine(dM _ _ _ _ f HA.out).mono ?_;rw[hpa];rintro r w2 ⟨rfl,hb2⟩;have HB2:=aA hb2;clear hb2);clear hpa;have HRA:=aA (HA.out.below HB2.out)
  have HNA:=aA (HRA.out.apart (Nat.le_refl _));have hlo:w.heap.size≤w2.heap.size:=HB2.out.size
  have HS0:=aA ((rY w2).cap);have HG0:=aA (World.grownBy_alloc w2 (.map #[] 0) (some w2.heap.size))
  have HQ0:=aA (HQ.out _ _ _ (HQB.out w2 hq HB2.out) hlo HG0.out);generalize hw3:w2.alloc (.map #[] 0)=w3 at *;clear hw3 hmm;go_loopw [15] (fun v wr=>∃(i:Nat) (K:List T) (c:M→Int),i≤la∧v= .int .i64 (i:Int)∧cQ st f i=some K∧aV K∧(∀m,m.ok=true→bY K m=c m)∧eF wr w2.heap.size 65536 c∧w2.grownBy wr (some w2.heap.size)∧Q wr) (fun v _=>la-(intOf v).toNat);case atStart=>exact⟨0,[],fun _=>0,gC _,rfl,rfl,cL,fun _ _=>rfl,HS0.out,HG0.out,HQ0.out⟩
  case round=>
   obtain⟨i,K,c,hi,rfl,hM,hKf,hKc,hS,hg,hqr⟩:=hrel;by_cases hlt:i<la
   ·have hil:(i:Int)<(la:Int):=by omega
    have hri:=HRA.out.grown hg HNA.out;rcases hri.2.2 with h0|⟨pb,off,hpe,hblt,hcl⟩
    ·omega
    obtain⟨g0,g1,g2,g3,g4⟩:=hcl i hlt;have hfi:=(cD HPA.out).2 i hlt
    have hKl:=gK i K hM;have hg1:=World.grownBy_alloc wr (.cells #[.int .i64 (f i).c,.int .i64 (f i).m.x,.int .i64 (f i).m.y,.int .i64 (f i).m.d,.int .i64 (f i).m.e] 80) (some w2.heap.size)
    have hcall:=HT.out (wr.alloc (.cells #[.int .i64 (f i).c,.int .i64 (f i).m.x,.int .i64 (f i).m.y,.int .i64 (f i).m.d,.int .i64 (f i).m.e] 80)) w2.heap.size c K (f i) (hS.grown (World.grownBy_alloc wr (.cells #[.int .i64 (f i).c,.int .i64 (f i).m.x,.int .i64 (f i).m.y,.int .i64 (f i).m.d,.int .i64 (f i).m.e] 80) none) (by simp)) hKf hKc hKl hfi (HQ.out _ _ _ hqr hlo hg1);have HC:=aA hcall
    have HS:=aA hS;have HG:=aA (hg.trans hg1)
    have HM:=aA hM;have HQR:=aA (HQ.out _ _ _ hqr hlo hg1)
    clear hcl hri hS hg hM hg1 hcall hqr;subst hpe;go_wp2_with fail;refine HC.out.mono ?_;rintro r w4 ⟨hg4,(⟨K',c',hst,rfl,hs4,hf4,hc4⟩|⟨hst,rfl⟩)⟩
    ·have HS4:=aA hs4;have HG4:=aA (HG.out.trans hg4)
     have HQ4:=aA (HQ.out _ _ _ HQR.out hlo hg4);obtain⟨D,ho,hcr,hat,hks⟩:=hs4;have hsz:=rT ho hat hks hf4 hc4
     have hlen:=ho.len Tryz.underlying101 3;rw[hsz]at hlen;clear ho hat hks hcr hg4 hsz;by_cases h4:K'.length≤400
     ·have h4':(K'.length:Int)≤400:=by omega
      have HST:Hid (cQ st f (i+1)=some K'):=by
       show _=_;rw[cQ,HM.out];show(st K (f i)).bind jP=_
       rw[hst];show jP K'=_
       exact if_pos h4
      go_wp2;go_roundw;case rel=>exact⟨i+1,K',c',by omega,by go_num,HST.out,hf4,hc4,HS4.out,HG4.out,HQ4.out⟩
      case measure=>simp[intOf];omega
     ·have h4':(400:Int)<(K'.length:Int):=by omega
      have hno:cQ st f la=none:=iN (i:=i+1) (by
       rw[cQ,HM.out];show(st K (f i)).bind jP=_
       rw[hst];show jP K'=_
       exact if_neg h4) la (by omega)
      go_wp2;refine bT (results_tmp2 rfl _ _ _) rfl ?_;rw[hno];exact⟨_,rfl,HB2.out.grown HG4.out hlo (fun k' e=>by cases e;exact hlo),dQ w4 _⟩
    ·have hno:cQ st f la=none:=iN (i:=i+1) (by
      rw[cQ,HM.out];show(st K (f i)).bind jP=_
      rw[hst]
      rfl) la (by omega)
     have HG4:=aA (HG.out.trans hg4);clear hg4;go_wp2;refine bT (results_tmp2 rfl _ _ _) rfl ?_;rw[hno];exact⟨_,rfl,HB2.out.grown HG4.out hlo (fun k' e=>by cases e;exact hlo),dQ w4 _⟩
   ·obtain rfl:i=la:=by omega
    have hKl:=gK _ _ hM;have e3:eH (cQ st f i)=gB K:=by rw[hM];simp[eH,gB,hKl]
    go_wp2_with (go_at_call 80;refine(rZ _ _ _ _ hS (by omega) hKf hKc).mono ?_;rintro r w5 ⟨v,rfl,hb5,ho5⟩);refine bT (results_tmp2 rfl _ _ _) rfl ?_;rw[e3];have hB4:Below w.heap.size w wr:=HB2.out.grown hg hlo (fun k' e=>by cases e;exact hlo)
    exact⟨_,rfl,hB4.trans (hb5.mono hB4.size),dJ ho5 hB4.size⟩
def rS (n:Int):Int:=if n%2=0 then 1 else 100
theorem mM (n:Int):0≤rS n∧rS n≤100:=by unfold rS;split<;>omega
theorem BF:∀n:Nat,pw 100 n=rS (n:Int)
 |0=>rfl
 |n+1=>by rw[pw,BF n];unfold rS;split<;>split<;>omega
def sg (t:T) (n:Int):Int:=t.c*rS n%101
theorem iG (t:T) (n:Int):0≤sg t n∧sg t n≤100:=by unfold sg;omega
abbrev B5 (b:Nat) (t:T) (u:World):Prop:=u.cell? ⟨b,0,none⟩=some (.int .i64 t.c)∧u.cell? ⟨b,1,none⟩=some (.int .i64 t.m.x)∧u.cell? ⟨b,2,none⟩=some (.int .i64 t.m.y)∧u.cell? ⟨b,3,none⟩=some (.int .i64 t.m.d)∧u.cell? ⟨b,4,none⟩=some (.int .i64 t.m.e)
theorem B5.below {b:Nat} {t:T} {u u':World} (h:B5 b t u) (hb:Below u.heap.size u u') (h2:b<u.heap.size):B5 b t u':=
 ⟨(hb.cell (p:=⟨b,0,none⟩) h2).trans h.1,(hb.cell (p:=⟨b,1,none⟩) h2).trans h.2.1,(hb.cell (p:=⟨b,2,none⟩) h2).trans h.2.2.1,(hb.cell (p:=⟨b,3,none⟩) h2).trans h.2.2.2.1,(hb.cell (p:=⟨b,4,none⟩) h2).trans h.2.2.2.2⟩
theorem B5.lt {b:Nat} {t:T} {u:World} (h:B5 b t u):b<u.heap.size:=uK u ⟨b,0,none⟩ h.1
theorem B5.box (w:World) (t:T):B5 w.heap.size t (w.alloc (.cells #[.int .i64 t.c,.int .i64 t.m.x,.int .i64 t.m.y,.int .i64 t.m.d,.int .i64 t.m.e] 80)):=by refine⟨?_,?_,?_,?_,?_⟩<;>(rw[World.cell?_alloc_at _ _ _ _ rfl];rfl)
theorem B5.far {w:World} {b o b' o':Nat} {v:Value} (h:b'≠b):(w.setCell ⟨b,o,none⟩ v).cell? ⟨b',o',none⟩=w.cell? ⟨b',o',none⟩:=kV (w:=w) (Below.heap_setCell _ _ _ _ h)
theorem B5.set {b g o:Nat} {t:T} {u:World} (h:B5 b t u) (hg:b≠g) (v:Value):B5 b t (u.setCell ⟨g,o,none⟩ v):=
 ⟨(B5.far hg).trans h.1,(B5.far hg).trans h.2.1,(B5.far hg).trans h.2.2.1,(B5.far hg).trans h.2.2.2.1,(B5.far hg).trans h.2.2.2.2⟩
theorem B5.alloc {b:Nat} {t:T} {u:World} (h:B5 b t u) (o:Obj):B5 b t (u.alloc o):=h.below (aG u o) h.lt
theorem B5.set5 {b g:Nat} {t:T} {u:World} (h:B5 b t u) (hg:b≠g) (v0 v1 v2 v3 v4:Value):B5 b t (((((u.setCell ⟨g,0,none⟩ v0).setCell ⟨g,1,none⟩ v1).setCell ⟨g,2,none⟩ v2).setCell ⟨g,3,none⟩ v3).setCell ⟨g,4,none⟩ v4):=
 ((((h.set hg v0).set hg v1).set hg v2).set hg v3).set hg v4
theorem oO (t:T) (n:Int) (w:World) (h0:0≤t.c) (h1:t.c≤100) (n0:0≤n) (n1:n≤1000):Calls Tryz.prog 88 #[.agg #[.int .i64 t.c,.int .i64 t.m.x,.int .i64 t.m.y,.int .i64 t.m.d,.int .i64 t.m.e],.int .i64 n] w fun e w'=>e= .returned (.int .i64 (sg t n))∧Below w.heap.size w w':=by
 have hp:∀u:World,Calls Tryz.prog 129 #[.int .i64 100,.int .i64 n] u fun e w'=>e= .returned (.int .i64 (rS n))∧w'=u:=fun u=>by
  have:=FC 100 n u (by omega) (by omega) n0 n1
  rwa[BF,Int.toNat_of_nonneg n0]at this
 have hs:=mM n;have ht:∀u:World,Calls Tryz.prog 128 #[.int .i64 t.c,.int .i64 (rS n)] u fun e w'=>e= .returned (.int .i64 (sg t n))∧w'=u:=fun u=>gY _ _ _ h0 h1 hs.1 hs.2
 obtain⟨q0,q1,q2,q3,q4⟩:=B5.box w t;have hb:=aG w (.cells #[.int .i64 t.c,.int .i64 t.m.x,.int .i64 t.m.y,.int .i64 t.m.d,.int .i64 t.m.e] 80)
 clear hs;go_enter Tryz.func88,Tryz.ntmps88;go_wp2_with fail
 go_region_with (first|(go_at_call 129;refine(hp _).mono ?_;rintro e w' ⟨rfl,hw'⟩;obtain rfl:=hw'.symm;clear hw')|(go_at_call 128;refine(ht _).mono ?_;rintro e w' ⟨rfl,hw'⟩;obtain rfl:=hw'.symm;clear hw'))
 all_goals
  go_wp2;go_ret;exact⟨rfl,hb.drew⟩
theorem vY (n:Int) (w:World) (n0:0≤n) (n1:n≤1000):Calls Tryz.prog 105 #[.int .i64 n] w fun e w'=>e= .returned (.int .i64 (rS n))∧w'=w:=by
 have hm:n.tmod 2=n%2:=Int.tmod_eq_emod_of_nonneg n0;by_cases h:n%2=0
 ·have hb:(n%2==0)=true:=by simp[h]
  have e1:rS n=1:=if_pos h;rw[e1];go_enter Tryz.func105,Tryz.ntmps105;go_wp2;go_ret;exact⟨rfl,rfl⟩
 ·have hb:(n%2==0)=false:=by simp[h]
  have e1:rS n=100:=if_neg h;rw[e1];go_enter Tryz.func105,Tryz.ntmps105;go_wp2;go_ret;exact⟨rfl,rfl⟩
def eI (t:T):T:=⟨sg t (t.m.d+t.m.e),⟨0,0,t.m.x,t.m.y⟩⟩
def fG (t:T):T:=⟨1,⟨t.m.d,t.m.e,0,0⟩⟩
theorem vH {t:T} (h:t.m.ok=true):(eI t).m.ok=true∧(fG t).m.ok=true:=by obtain⟨x1,x2,y1,y2,d1,d2,e1,e2⟩:=M.ok_iff.1 h;exact⟨M.ok_iff.2 (by dsimp only[eI];omega),M.ok_iff.2 (by dsimp only[fG];omega)⟩
def dP (K:List T) (t:T):Option (List T):=bO K (eI t) (fG t)
theorem BM:yQ 87 #[] dP (fun _=>True):=by
 intro W b c K t hS hK hKc hl ht _;obtain⟨o1,o2⟩:=vH ht.1;have hdb:=M.ok_iff.1 ht.1
 have hcr:=hS.range;have hsr:=iG t (t.m.d+t.m.e)
 have hwr:IntKind.i64.wrap (t.m.d+t.m.e)=t.m.d+t.m.e:=by rw[IntKind.wrap_i64];omega
 have hnum:∀u:World,Calls Tryz.prog 88 #[.agg #[.int .i64 t.c,.int .i64 t.m.x,.int .i64 t.m.y,.int .i64 t.m.d,.int .i64 t.m.e],.int .i64 (t.m.d+t.m.e)] u fun e w'=>e= .returned (.int .i64 (sg t (t.m.d+t.m.e)))∧Below u.heap.size u w':=fun u=>oO t _ u (by omega) ht.2.2 (by omega) (by omega);have hbox:B5 W.heap.size t (W.alloc (.cells #[.int .i64 t.c,.int .i64 t.m.x,.int .i64 t.m.y,.int .i64 t.m.d,.int .i64 t.m.e] 80)).drew:=B5.box W t
 have hB0:Below W.heap.size W (W.alloc (.cells #[.int .i64 t.c,.int .i64 t.m.x,.int .i64 t.m.y,.int .i64 t.m.d,.int .i64 t.m.e] 80)).drew:=(aG W (.cells #[.int .i64 t.c,.int .i64 t.m.x,.int .i64 t.m.y,.int .i64 t.m.d,.int .i64 t.m.e] 80)).drew;have hs0:(W.alloc (.cells #[.int .i64 t.c,.int .i64 t.m.x,.int .i64 t.m.y,.int .i64 t.m.d,.int .i64 t.m.e] 80)).drew.heap.size=W.heap.size+1:=by simp
 show Calls Tryz.prog 87 #[.map (some b),.agg #[.int .i64 t.c,.int .i64 t.m.x,.int .i64 t.m.y,.int .i64 t.m.d,.int .i64 t.m.e]] W _;go_enter Tryz.func87,Tryz.ntmps87;go_wp2_with fail
 go_region_held3 (fun u=>u.cell? ⟨W.heap.size,0,none⟩=some (.int .i64 t.c)∧u.cell? ⟨W.heap.size,1,none⟩=some (.int .i64 t.m.x)∧u.cell? ⟨W.heap.size,2,none⟩=some (.int .i64 t.m.y)∧u.cell? ⟨W.heap.size,3,none⟩=some (.int .i64 t.m.d)∧u.cell? ⟨W.heap.size,4,none⟩=some (.int .i64 t.m.e)) (first|with_reducible exact hbox|with_reducible exact B5.below (b:=W.heap.size) (t:=t) (by assumption) (by assumption) (B5.lt (t:=t) (by assumption))|with_reducible exact B5.alloc (b:=W.heap.size) (t:=t) (by assumption) _|with_reducible exact B5.set5 (b:=W.heap.size) (t:=t) (by assumption) (by simp) _ _ _ _ _|go_keep) (first|(go_at_call 88;refine(hnum _).mono ?_;rintro e w1 ⟨rfl,hb1⟩;obtain⟨hc1,hf1⟩:=bU hb1))
 ·have hsw:=hb1.size;have hA:B5 w1.heap.size (eI t) (w1.alloc (.cells #[.int .i64 (sg t (t.m.d+t.m.e)),.int .i64 0,.int .i64 0,.int .i64 (t.m.x),.int .i64 (t.m.y)] 80)):=B5.box w1 (eI t)
  have hB2:Below W.heap.size W (w1.alloc (.cells #[.int .i64 (sg t (t.m.d+t.m.e)),.int .i64 0,.int .i64 0,.int .i64 (t.m.x),.int .i64 (t.m.y)] 80)):=(aC hB0 hb1).alloc (by omega) _;clear hc1 hf1 hb1 hnum hbox hB0;generalize w1.alloc (.cells #[.int .i64 (sg t (t.m.d+t.m.e)),.int .i64 0,.int .i64 0,.int .i64 (t.m.x),.int .i64 (t.m.y)] 80)=u2 at *;generalize w1.heap.size=G at *;clear hs0 hsw;have hT:B5 W.heap.size t u2:=by assumption
  have hTl:=hT.lt;have hAl:=hA.lt
  have hok:((eI t).m.sum (fG t).m).ok=true:=M.ok_iff.2 (by dsimp only[eI,fG,M.sum];omega);have hTwo:jH (eI t) (fG t) ((eI t).m.sum (fG t).m):=jH.of o1 o2 hok hsr ⟨show(0:Int)≤1 by decide,show(1:Int)≤100 by decide⟩
  obtain⟨nf,nc⟩:=hZ hTwo hK hcr hKc;have hB3:Below W.heap.size W (u2.alloc (.cells #[.int .i64 1,.int .i64 (t.m.d),.int .i64 (t.m.e),.int .i64 0,.int .i64 0] 80)):=hB2.alloc (by omega) _
  have hcall:=jJ (u2.alloc (.cells #[.int .i64 1,.int .i64 (t.m.d),.int .i64 (t.m.e),.int .i64 0,.int .i64 0] 80)) b c (hS.grown (cV hB3) (by simp)) (eI t) (fG t) hTwo nf nc;have HB3:=aA hB3
  have HST:Hid (dP K t=if(dC K (aY (eI t) (fG t))).length≤400 then some (dC K (aY (eI t) (fG t)))else none):=by show bO K _ _=_;unfold bO;simp[hok]
  obtain⟨t0,t1,t2,t3,t4⟩:=hT;obtain⟨a0,a1,a2,a3,a4⟩:=hA;dsimp only[eI]at a0 a1 a2 a3 a4;clear hB2 hB3 hS;go_wp2_with (go_at_call 79;refine hcall.mono ?_;rintro r w6 ⟨rfl,hs6,hg6⟩;have HS6:=aA hs6;have HG6:=aA hg6;clear hs6 hg6);go_ret;refine⟨(dX HB3.out (some b)).trans HG6.out,?_⟩;rw[HST.out];by_cases h4:(dC K (aY (eI t) (fG t))).length≤400
  ·exact .inl ⟨_,_,if_pos h4,by rw[decide_eq_true h4];rfl,HS6.out,nf,nc⟩
  ·exact .inr ⟨if_neg h4,by rw[decide_eq_false h4];rfl⟩
 ·have hsw:=hb1.size;have hA:B5 (W.heap.size+1) (eI t) (((((w1.setCell ⟨W.heap.size+1,0,none⟩ (.int .i64 (sg t (t.m.d+t.m.e)))).setCell ⟨W.heap.size+1,1,none⟩ (.int .i64 0)).setCell ⟨W.heap.size+1,2,none⟩ (.int .i64 0)).setCell ⟨W.heap.size+1,3,none⟩ (.int .i64 t.m.x)).setCell ⟨W.heap.size+1,4,none⟩ (.int .i64 t.m.y)):=by refine⟨?_,?_,?_,?_,?_⟩<;>go_simp<;>rfl
  have hB2:Below W.heap.size W (((((w1.setCell ⟨W.heap.size+1,0,none⟩ (.int .i64 (sg t (t.m.d+t.m.e)))).setCell ⟨W.heap.size+1,1,none⟩ (.int .i64 0)).setCell ⟨W.heap.size+1,2,none⟩ (.int .i64 0)).setCell ⟨W.heap.size+1,3,none⟩ (.int .i64 t.m.x)).setCell ⟨W.heap.size+1,4,none⟩ (.int .i64 t.m.y)):=((((((aC (hB0.alloc (by simp) (.cells #[.int .i64 0,.int .i64 0,.int .i64 0,.int .i64 0,.int .i64 0] 80)) hb1).setCell (by simp) _).setCell (by simp) _).setCell (by simp) _).setCell (by simp) _).setCell (by simp) _)
  clear hc1 hf1 hb1 hnum hbox hB0 hs0 hsw;generalize(((((w1.setCell ⟨W.heap.size+1,0,none⟩ (.int .i64 (sg t (t.m.d+t.m.e)))).setCell ⟨W.heap.size+1,1,none⟩ (.int .i64 0)).setCell ⟨W.heap.size+1,2,none⟩ (.int .i64 0)).setCell ⟨W.heap.size+1,3,none⟩ (.int .i64 t.m.x)).setCell ⟨W.heap.size+1,4,none⟩ (.int .i64 t.m.y))=u2 at *;have hT:B5 W.heap.size t u2:=by assumption
  generalize hG:W.heap.size+1=G at *;have hTl:=hT.lt
  have hAl:=hA.lt;have hok:((eI t).m.sum (fG t).m).ok=true:=M.ok_iff.2 (by dsimp only[eI,fG,M.sum];omega)
  have hTwo:jH (eI t) (fG t) ((eI t).m.sum (fG t).m):=jH.of o1 o2 hok hsr ⟨show(0:Int)≤1 by decide,show(1:Int)≤100 by decide⟩;obtain⟨nf,nc⟩:=hZ hTwo hK hcr hKc;have hB3:Below W.heap.size W (u2.alloc (.cells #[.int .i64 1,.int .i64 (t.m.d),.int .i64 (t.m.e),.int .i64 0,.int .i64 0] 80)):=hB2.alloc (by omega) _
  have hcall:=jJ (u2.alloc (.cells #[.int .i64 1,.int .i64 (t.m.d),.int .i64 (t.m.e),.int .i64 0,.int .i64 0] 80)) b c (hS.grown (cV hB3) (by simp)) (eI t) (fG t) hTwo nf nc;have HB3:=aA hB3
  have HST:Hid (dP K t=if(dC K (aY (eI t) (fG t))).length≤400 then some (dC K (aY (eI t) (fG t)))else none):=by show bO K _ _=_;unfold bO;simp[hok]
  obtain⟨t0,t1,t2,t3,t4⟩:=hT;obtain⟨a0,a1,a2,a3,a4⟩:=hA;dsimp only[eI]at a0 a1 a2 a3 a4;clear hB2 hB3 hS;go_wp2_with (go_at_call 79;refine hcall.mono ?_;rintro r w6 ⟨rfl,hs6,hg6⟩;have HS6:=aA hs6;have HG6:=aA hg6;clear hs6 hg6);go_ret;refine⟨(dX HB3.out (some b)).trans HG6.out,?_⟩;rw[HST.out];by_cases h4:(dC K (aY (eI t) (fG t))).length≤400
  ·exact .inl ⟨_,_,if_pos h4,by rw[decide_eq_true h4];rfl,HS6.out,nf,nc⟩
  ·exact .inr ⟨if_neg h4,by rw[decide_eq_false h4];rfl⟩
def eG (t:T):T:=⟨sg t (t.m.d+t.m.e),⟨0,0,t.m.d,t.m.e⟩⟩
def eZ (t:T):T:=⟨1,⟨t.m.x,t.m.y,0,0⟩⟩
theorem uP {t:T} (h:t.m.ok=true):(eG t).m.ok=true∧(eZ t).m.ok=true:=by obtain⟨x1,x2,y1,y2,d1,d2,e1,e2⟩:=M.ok_iff.1 h;exact⟨M.ok_iff.2 (by dsimp only[eG];omega),M.ok_iff.2 (by dsimp only[eZ];omega)⟩
def eJ (K:List T) (t:T):Option (List T):=bO K (eG t) (eZ t)
theorem zC:yQ 89 #[] eJ (fun _=>True):=by
 intro W b c K t hS hK hKc hl ht _;obtain⟨o1,o2⟩:=uP ht.1;have hdb:=M.ok_iff.1 ht.1
 have hcr:=hS.range;have hsr:=iG t (t.m.d+t.m.e)
 have hwr:IntKind.i64.wrap (t.m.d+t.m.e)=t.m.d+t.m.e:=by rw[IntKind.wrap_i64];omega
 have hnum:∀u:World,Calls Tryz.prog 88 #[.agg #[.int .i64 t.c,.int .i64 t.m.x,.int .i64 t.m.y,.int .i64 t.m.d,.int .i64 t.m.e],.int .i64 (t.m.d+t.m.e)] u fun e w'=>e= .returned (.int .i64 (sg t (t.m.d+t.m.e)))∧Below u.heap.size u w':=fun u=>oO t _ u (by omega) ht.2.2 (by omega) (by omega);have hbox:B5 W.heap.size t (W.alloc (.cells #[.int .i64 t.c,.int .i64 t.m.x,.int .i64 t.m.y,.int .i64 t.m.d,.int .i64 t.m.e] 80)).drew:=B5.box W t
 have hB0:Below W.heap.size W (W.alloc (.cells #[.int .i64 t.c,.int .i64 t.m.x,.int .i64 t.m.y,.int .i64 t.m.d,.int .i64 t.m.e] 80)).drew:=(aG W (.cells #[.int .i64 t.c,.int .i64 t.m.x,.int .i64 t.m.y,.int .i64 t.m.d,.int .i64 t.m.e] 80)).drew;have hs0:(W.alloc (.cells #[.int .i64 t.c,.int .i64 t.m.x,.int .i64 t.m.y,.int .i64 t.m.d,.int .i64 t.m.e] 80)).drew.heap.size=W.heap.size+1:=by simp
 show Calls Tryz.prog 89 #[.map (some b),.agg #[.int .i64 t.c,.int .i64 t.m.x,.int .i64 t.m.y,.int .i64 t.m.d,.int .i64 t.m.e]] W _;go_enter Tryz.func89,Tryz.ntmps89;go_wp2_with fail
 go_region_held3 (fun u=>u.cell? ⟨W.heap.size,0,none⟩=some (.int .i64 t.c)∧u.cell? ⟨W.heap.size,1,none⟩=some (.int .i64 t.m.x)∧u.cell? ⟨W.heap.size,2,none⟩=some (.int .i64 t.m.y)∧u.cell? ⟨W.heap.size,3,none⟩=some (.int .i64 t.m.d)∧u.cell? ⟨W.heap.size,4,none⟩=some (.int .i64 t.m.e)) (first|with_reducible exact hbox|with_reducible exact B5.below (b:=W.heap.size) (t:=t) (by assumption) (by assumption) (B5.lt (t:=t) (by assumption))|with_reducible exact B5.alloc (b:=W.heap.size) (t:=t) (by assumption) _|with_reducible exact B5.set5 (b:=W.heap.size) (t:=t) (by assumption) (by simp) _ _ _ _ _|go_keep) (first|(go_at_call 88;refine(hnum _).mono ?_;rintro e w1 ⟨rfl,hb1⟩;obtain⟨hc1,hf1⟩:=bU hb1))
 ·have hsw:=hb1.size;have hA:B5 w1.heap.size (eG t) (w1.alloc (.cells #[.int .i64 (sg t (t.m.d+t.m.e)),.int .i64 0,.int .i64 0,.int .i64 (t.m.d),.int .i64 (t.m.e)] 80)):=B5.box w1 (eG t)
  have hB2:Below W.heap.size W (w1.alloc (.cells #[.int .i64 (sg t (t.m.d+t.m.e)),.int .i64 0,.int .i64 0,.int .i64 (t.m.d),.int .i64 (t.m.e)] 80)):=(aC hB0 hb1).alloc (by omega) _;clear hc1 hf1 hb1 hnum hbox hB0;generalize w1.alloc (.cells #[.int .i64 (sg t (t.m.d+t.m.e)),.int .i64 0,.int .i64 0,.int .i64 (t.m.d),.int .i64 (t.m.e)] 80)=u2 at *;generalize w1.heap.size=G at *;clear hs0 hsw;have hT:B5 W.heap.size t u2:=by assumption
  have hTl:=hT.lt;have hAl:=hA.lt
  have hok:((eG t).m.sum (eZ t).m).ok=true:=M.ok_iff.2 (by dsimp only[eG,eZ,M.sum];omega);have hTwo:jH (eG t) (eZ t) ((eG t).m.sum (eZ t).m):=jH.of o1 o2 hok hsr ⟨show(0:Int)≤1 by decide,show(1:Int)≤100 by decide⟩
  obtain⟨nf,nc⟩:=hZ hTwo hK hcr hKc;have hB3:Below W.heap.size W (u2.alloc (.cells #[.int .i64 1,.int .i64 (t.m.x),.int .i64 (t.m.y),.int .i64 0,.int .i64 0] 80)):=hB2.alloc (by omega) _
  have hcall:=jJ (u2.alloc (.cells #[.int .i64 1,.int .i64 (t.m.x),.int .i64 (t.m.y),.int .i64 0,.int .i64 0] 80)) b c (hS.grown (cV hB3) (by simp)) (eG t) (eZ t) hTwo nf nc;have HB3:=aA hB3
  have HST:Hid (eJ K t=if(dC K (aY (eG t) (eZ t))).length≤400 then some (dC K (aY (eG t) (eZ t)))else none):=by show bO K _ _=_;unfold bO;simp[hok]
  obtain⟨t0,t1,t2,t3,t4⟩:=hT;obtain⟨a0,a1,a2,a3,a4⟩:=hA;dsimp only[eG]at a0 a1 a2 a3 a4;clear hB2 hB3 hS;go_wp2_with (go_at_call 79;refine hcall.mono ?_;rintro r w6 ⟨rfl,hs6,hg6⟩;have HS6:=aA hs6;have HG6:=aA hg6;clear hs6 hg6);go_ret;refine⟨(dX HB3.out (some b)).trans HG6.out,?_⟩;rw[HST.out];by_cases h4:(dC K (aY (eG t) (eZ t))).length≤400
  ·exact .inl ⟨_,_,if_pos h4,by rw[decide_eq_true h4];rfl,HS6.out,nf,nc⟩
  ·exact .inr ⟨if_neg h4,by rw[decide_eq_false h4];rfl⟩
 ·have hsw:=hb1.size;have hA:B5 (W.heap.size+1) (eG t) (((((w1.setCell ⟨W.heap.size+1,0,none⟩ (.int .i64 (sg t (t.m.d+t.m.e)))).setCell ⟨W.heap.size+1,1,none⟩ (.int .i64 0)).setCell ⟨W.heap.size+1,2,none⟩ (.int .i64 0)).setCell ⟨W.heap.size+1,3,none⟩ (.int .i64 t.m.d)).setCell ⟨W.heap.size+1,4,none⟩ (.int .i64 t.m.e)):=by refine⟨?_,?_,?_,?_,?_⟩<;>go_simp<;>rfl
  have hB2:Below W.heap.size W (((((w1.setCell ⟨W.heap.size+1,0,none⟩ (.int .i64 (sg t (t.m.d+t.m.e)))).setCell ⟨W.heap.size+1,1,none⟩ (.int .i64 0)).setCell ⟨W.heap.size+1,2,none⟩ (.int .i64 0)).setCell ⟨W.heap.size+1,3,none⟩ (.int .i64 t.m.d)).setCell ⟨W.heap.size+1,4,none⟩ (.int .i64 t.m.e)):=((((((aC (hB0.alloc (by simp) (.cells #[.int .i64 0,.int .i64 0,.int .i64 0,.int .i64 0,.int .i64 0] 80)) hb1).setCell (by simp) _).setCell (by simp) _).setCell (by simp) _).setCell (by simp) _).setCell (by simp) _)
  clear hc1 hf1 hb1 hnum hbox hB0 hs0 hsw;generalize(((((w1.setCell ⟨W.heap.size+1,0,none⟩ (.int .i64 (sg t (t.m.d+t.m.e)))).setCell ⟨W.heap.size+1,1,none⟩ (.int .i64 0)).setCell ⟨W.heap.size+1,2,none⟩ (.int .i64 0)).setCell ⟨W.heap.size+1,3,none⟩ (.int .i64 t.m.d)).setCell ⟨W.heap.size+1,4,none⟩ (.int .i64 t.m.e))=u2 at *;have hT:B5 W.heap.size t u2:=by assumption
  generalize hG:W.heap.size+1=G at *;have hTl:=hT.lt
  have hAl:=hA.lt;have hok:((eG t).m.sum (eZ t).m).ok=true:=M.ok_iff.2 (by dsimp only[eG,eZ,M.sum];omega)
  have hTwo:jH (eG t) (eZ t) ((eG t).m.sum (eZ t).m):=jH.of o1 o2 hok hsr ⟨show(0:Int)≤1 by decide,show(1:Int)≤100 by decide⟩;obtain⟨nf,nc⟩:=hZ hTwo hK hcr hKc;have hB3:Below W.heap.size W (u2.alloc (.cells #[.int .i64 1,.int .i64 (t.m.x),.int .i64 (t.m.y),.int .i64 0,.int .i64 0] 80)):=hB2.alloc (by omega) _
  have hcall:=jJ (u2.alloc (.cells #[.int .i64 1,.int .i64 (t.m.x),.int .i64 (t.m.y),.int .i64 0,.int .i64 0] 80)) b c (hS.grown (cV hB3) (by simp)) (eG t) (eZ t) hTwo nf nc;have HB3:=aA hB3
  have HST:Hid (eJ K t=if(dC K (aY (eG t) (eZ t))).length≤400 then some (dC K (aY (eG t) (eZ t)))else none):=by show bO K _ _=_;unfold bO;simp[hok]
  obtain⟨t0,t1,t2,t3,t4⟩:=hT;obtain⟨a0,a1,a2,a3,a4⟩:=hA;dsimp only[eG]at a0 a1 a2 a3 a4;clear hB2 hB3 hS;go_wp2_with (go_at_call 79;refine hcall.mono ?_;rintro r w6 ⟨rfl,hs6,hg6⟩;have HS6:=aA hs6;have HG6:=aA hg6;clear hs6 hg6);go_ret;refine⟨(dX HB3.out (some b)).trans HG6.out,?_⟩;rw[HST.out];by_cases h4:(dC K (aY (eG t) (eZ t))).length≤400
  ·exact .inl ⟨_,_,if_pos h4,by rw[decide_eq_true h4];rfl,HS6.out,nf,nc⟩
  ·exact .inr ⟨if_neg h4,by rw[decide_eq_false h4];rfl⟩
theorem AG (w:World) (lo:Nat) (v:Value) (K:List T) (a b:T) (ho:w.ownsRow lo 80 5 v K.length (aF K)) (hlo:lo≤w.heap.size) (hl:K.length≤400) (hK:aV K) (h1:a.m.ok=true∧0≤a.c∧a.c≤100) (h2:b.m.ok=true∧b.c=1):Calls Tryz.prog 104 #[v,.int .i64 a.c,.agg #[.int .i64 a.m.x,.int .i64 a.m.y,.int .i64 a.m.d,.int .i64 a.m.e],.agg #[.int .i64 b.m.x,.int .i64 b.m.y,.int .i64 b.m.d,.int .i64 b.m.e]] w fun r w'=>∃v',r= .returned (.tuple #[v',.bool (eH (bO K a b)).2])∧Below w.heap.size w w'∧w'.ownsRow lo 80 5 v' (eH (bO K a b)).1.length (aF (eH (bO K a b)).1):=by
 obtain⟨p,cap,rfl,hout⟩:=aM ho (by omega);have HR:=aA hout.1
 clear ho hout;have h2':b.m.ok=true∧0≤b.c∧b.c≤100:=⟨h2.1,by omega,by omega⟩
 have hm:∀u:World,Calls Tryz.prog 138 #[.agg #[.int .i64 a.c,.int .i64 a.m.x,.int .i64 a.m.y,.int .i64 a.m.d,.int .i64 a.m.e],.agg #[.int .i64 1,.int .i64 b.m.x,.int .i64 b.m.y,.int .i64 b.m.d,.int .i64 b.m.e]] u fun e w'=>∃v,e= .returned (.tuple #[v,.bool (a.m.sum b.m).ok])∧Below u.heap.size u w'∧w'.ownsRow u.heap.size 80 5 v (iF a b).length (aF (iF a b)):=fun u=>by
  have:=FB u a b h1 h2'
  rwa[h2.2]at this
 have hz:=aA (aC (aG w (.cells #[.int .i64 a.m.x,.int .i64 a.m.y,.int .i64 a.m.d,.int .i64 a.m.e] 78)) (aG _ (.cells #[.int .i64 b.m.x,.int .i64 b.m.y,.int .i64 b.m.d,.int .i64 b.m.e] 78)));have hsm:=nC h1 h2'
 cases hok:(a.m.sum b.m).ok
 ·have e1:bO K a b=none:=if_neg (fun h=>by rw[hok]at h;cases h.1);rw[e1];rw[hok]at hm;go_enter Tryz.func104,Tryz.ntmps104;go_wp2_with fail;refine(hm _).mono ?_;rintro r w1 ⟨vx,rfl,hb1,_⟩;have HB1:=aA (aC hz.out hb1)
  clear hb1;go_wp2;refine bT (results_tmp2 rfl _ _ _) rfl ?_;exact⟨_,rfl,HB1.out.alloc HB1.out.size _,aQ w1 lo (gU hlo HB1.out.size)⟩
 ·have e0:iF a b=aY a b:=if_pos hok;rw[e0]at hm hsm;rw[hok]at hm;have hTwo:jH a b (a.m.sum b.m):=⟨h1.1,h2.1,hok,rfl,rfl,rfl,rfl,h1.2,h2'.2⟩
  have hpf:=(dK hTwo).1;by_cases h4:(dC K (aY a b)).length≤400
  ·have e1:bO K a b=some (dC K (aY a b)):=if_pos ⟨hok,h4⟩;have h4':((dC K (aY a b)).length:Int)≤400:=by omega
   rw[e1];go_enter Tryz.func104,Tryz.ntmps104;go_wp2_with fail;refine(hm _).mono ?_;rintro r w1 ⟨vx,rfl,hb1,hx⟩;obtain⟨px,cx,rfl,hox⟩:=aM hx (by omega);have HB1:=aA (aC hz.out hb1)
   have HX:=aA hox.1;clear hb1 hx hox;go_wp2_with fail;refine(mH _ _ _ _ _ _ _ (lf K) (lf (aY a b)) (HR.out.below HB1.out) HX.out (by omega) (dE hK).at (dE hpf).at).mono ?_;rintro r w2 ⟨v2,rfl,hb2,hown⟩;change w2.ownsRow w1.heap.size 80 5 v2 (dC K (aY a b)).length (aF (dC K (aY a b)))at hown;obtain⟨py,cy,rfl,_⟩:=aM hown (by omega);have HB2:=aA (aC HB1.out hb2)
   have HO:=aA (dB hown (gU hlo HB1.out.size));clear hb2 hown;go_wp2;refine bT (results_tmp2 rfl _ _ _) rfl ?_;exact⟨_,rfl,HB2.out,HO.out⟩
  ·have e1:bO K a b=none:=if_neg (fun h=>h4 h.2);have h4':(400:Int)<((dC K (aY a b)).length:Int):=by omega
   have hal:(dC K (aY a b)).length≤2000:=by have:=jK (lf K) K.length (lf (aY a b)) (aY a b).length 0 0;unfold dC;omega
   rw[e1];go_enter Tryz.func104,Tryz.ntmps104;go_wp2_with fail;refine(hm _).mono ?_;rintro r w1 ⟨vx,rfl,hb1,hx⟩;obtain⟨px,cx,rfl,hox⟩:=aM hx (by omega);have HB1:=aA (aC hz.out hb1)
   have HX:=aA hox.1;clear hb1 hx hox;go_wp2_with fail;refine(mH _ _ _ _ _ _ _ (lf K) (lf (aY a b)) (HR.out.below HB1.out) HX.out (by omega) (dE hK).at (dE hpf).at).mono ?_;rintro r w2 ⟨v2,rfl,hb2,hown⟩;change w2.ownsRow w1.heap.size 80 5 v2 (dC K (aY a b)).length (aF (dC K (aY a b)))at hown;obtain⟨py,cy,rfl,_⟩:=aM hown (by omega);have HB2:=aA (aC HB1.out hb2)
   clear hb2 hown;go_wp2;refine bT (results_tmp2 rfl _ _ _) rfl ?_;exact⟨_,rfl,HB2.out.alloc HB2.out.size _,aQ w2 lo (gU hlo HB2.out.size)⟩
abbrev P5 (pb o b:Nat) (t:T) (u:World):Prop:=u.cell? ⟨pb,o,none⟩=some (.int .i64 t.c)∧u.cell? ⟨b,0,none⟩=some (.int .i64 t.m.x)∧u.cell? ⟨b,1,none⟩=some (.int .i64 t.m.y)∧u.cell? ⟨b,2,none⟩=some (.int .i64 t.m.d)∧u.cell? ⟨b,3,none⟩=some (.int .i64 t.m.e)
theorem P5.below {pb o b:Nat} {t:T} {u u':World} (h:P5 pb o b t u) (hb:Below u.heap.size u u') (h1:pb<u.heap.size) (h2:b<u.heap.size):P5 pb o b t u':=
 ⟨(hb.cell (p:=⟨pb,o,none⟩) h1).trans h.1,(hb.cell (p:=⟨b,0,none⟩) h2).trans h.2.1,(hb.cell (p:=⟨b,1,none⟩) h2).trans h.2.2.1,(hb.cell (p:=⟨b,2,none⟩) h2).trans h.2.2.2.1,(hb.cell (p:=⟨b,3,none⟩) h2).trans h.2.2.2.2⟩
def bX (f:Nat→T) (n:Nat):List T×Bool:=iS dP f n
theorem lP (f:Nat→T) (n:Nat):(bX f n).1.length≤400:=tL _ _ _
theorem qH (w:World) (a:Option Addr) (n cap:Nat) (f:Nat→T) (ha:Rd w a n cap f):Calls Tryz.prog 42 #[.slice a n cap] w fun r w'=>∃a' cap',r= .returned (.tuple #[.slice a' (bX f n).1.length cap',.bool (bX f n).2])∧Below w.heap.size w w'∧mB w.heap.size w' a' cap' (bX f n).1:=by
 have hc:=tK w a n cap f 87 #[] dP (fun _=>True) (enters_of Tryz.func87 (by kernel_rfl) rfl) BM (fun _ _ _ _ _ _=>trivial) (fun _ _ _=>trivial) trivial ha;change Calls Tryz.prog 86 #[.slice a n cap,.func (.func 87) #[] #[]] w fun r w'=>∃v,r= .returned (.tuple #[v,.bool (bX f n).2])∧Below w.heap.size w w'∧w'.ownsRow w.heap.size 80 5 v (bX f n).1.length (aF (bX f n).1)at hc;have hlen:=lP f n
 generalize bX f n=V at hc hlen⊢;go_enter Tryz.func42,Tryz.ntmps42;go_wp2_with (go_at_call 86;refine hc.mono ?_;rintro r w1 ⟨v,rfl,hb1,ho1⟩);refine bT (results_tmp2 rfl _ _ _) rfl ?_;obtain⟨a',cap',rfl,hout⟩:=aM ho1 (by omega);exact⟨a',cap',rfl,hb1,hout⟩
theorem xT (w:World) (a:Option Addr) (n cap:Nat) (f:Nat→T) (h:Rd w a n cap f):Calls Tryz.prog 57 #[.slice a n cap] w fun r w'=>∃v,r= .returned (.tuple #[v,.bool (bX f n).2])∧Below w.heap.size w w'∧w'.ownsRow w.heap.size 80 5 v (bX f n).1.length (aF (bX f n).1):=by
 have HA:=aA h;have hn:(n:Int)≤140737488351232:=by have:=h.2.1;omega
 have hO0:=aQ w w.heap.size (Nat.le_refl _);have hB0:=aG w (.cells #[] 80)
 clear h;cases hpa:aN n f
 ·have e1:bX f n=([],false):=by simp[bX,iS,hpa]
  rw[e1];go_enter Tryz.func57,Tryz.ntmps57;go_wp2_with (go_at_call 74;refine(bD _ _ _ _ f (HA.out.below hB0)).mono ?_;rw[hpa];rintro r w1 ⟨rfl,hb1⟩;have HB1:=aA (aC hB0 hb1);have HO1:=aA (aT hO0 hb1);clear hb1);go_loopw [4,5,6] (fun v ok ii wr=>ok= .bool false∧ii= .int .i64 0∧wr.ownsRow w.heap.size 80 5 v 0 (aF [])∧Below w.heap.size w wr) (fun _ _ _ _=>0);case atStart=>exact⟨rfl,rfl,HO1.out,HB1.out⟩
  case round=>
   obtain⟨rfl,rfl,hown,hbl⟩:=hrel;by_cases h0:n=0
   ·subst h0;go_wp2;refine bT (results_tmp2 rfl _ _ _) rfl ?_;exact⟨_,rfl,hbl,hown⟩
   ·have hpos:(0:Int)<(n:Int):=by omega
    go_wp2;refine bT (results_tmp2 rfl _ _ _) rfl ?_;exact⟨_,rfl,hbl,hown⟩
 ·have e1:bX f n=eH (cQ dP f n):=by simp[bX,iS,hpa]
  rw[e1];clear e1;have l1:=(fN hpa).1
  have HPA:=aA hpa;go_enter Tryz.func57,Tryz.ntmps57;go_wp2_with (go_at_call 74;refine(bD _ _ _ _ f (HA.out.below hB0)).mono ?_;rw[hpa];rintro r w1 ⟨rfl,hb1⟩;have HB1:=aA (aC hB0 hb1);have HO1:=aA (aT hO0 hb1);clear hb1);go_loopw [4,5,6] (fun v ok ii wr=>∃i:Nat,i≤n∧ii= .int .i64 (i:Int)∧Below w.heap.size w wr∧((∃K,ok= .bool true∧cQ dP f i=some K∧aV K∧wr.ownsRow w.heap.size 80 5 v K.length (aF K))∨(ok= .bool false∧cQ dP f n=none∧wr.ownsRow w.heap.size 80 5 v 0 (aF [])))) (fun _ _ ii _=>n-(intOf ii).toNat);case atStart=>exact⟨0,gC _,rfl,HB1.out,.inl ⟨[],rfl,rfl,cL,HO1.out⟩⟩
  case round=>
   obtain⟨i,hi,rfl,hbl,hcase⟩:=hrel;rcases hcase with⟨K,rfl,hM,hKf,hown⟩|⟨rfl,hM,hown⟩
   ·by_cases hlt:i<n
    ·have hil:(i:Int)<(n:Int):=by omega
     have hfi:=(cD HPA.out).2 i hlt;have hKl:=gK i K hM
     have HM:=aA hM;have HOWN:=aA hown
     have HBL:=aA hbl;clear hown hbl hM;have hri:=HA.out.below HBL.out
     rcases hri.2.2 with h0|⟨pb,off,hpe,hblt,hcl⟩
     ·omega
     subst hpe;obtain⟨g0,g1,g2,g3,g4⟩:=hcl i hlt;clear hcl hri;have hdb:=M.ok_iff.1 hfi.1
     obtain⟨o1,o2⟩:=vH hfi.1;have hsr:=iG (f i) ((f i).m.d+(f i).m.e)
     have hwr:IntKind.i64.wrap ((f i).m.d+(f i).m.e)=(f i).m.d+(f i).m.e:=by rw[IntKind.wrap_i64];omega
     have hsg:=mM ((f i).m.d+(f i).m.e);have hmb:=fF (show 0≤(f i).c by omega) hfi.2.2 hsg.1 hsg.2
     have hwm:IntKind.i64.wrap ((f i).c*rS ((f i).m.d+(f i).m.e))=(f i).c*rS ((f i).m.d+(f i).m.e):=by rw[IntKind.wrap_i64];omega
     have htm:((f i).c*rS ((f i).m.d+(f i).m.e)).tmod 101=sg (f i) ((f i).m.d+(f i).m.e):=Int.tmod_eq_emod_of_nonneg hmb.1;have hsign:∀u:World,Calls Tryz.prog 105 #[.int .i64 ((f i).m.d+(f i).m.e)] u fun e w'=>e= .returned (.int .i64 (rS ((f i).m.d+(f i).m.e)))∧w'=u:=fun u=>vY _ u (by omega) (by omega)
     have hok:((eI (f i)).m.sum (fG (f i)).m).ok=true:=M.ok_iff.2 (by dsimp only[eI,fG,M.sum];omega);have hTwo:jH (eI (f i)) (fG (f i)) ((eI (f i)).m.sum (fG (f i)).m):=jH.of o1 o2 hok hsr ⟨show(0:Int)≤1 by decide,show(1:Int)≤100 by decide⟩
     have hfK:=(eP hKf (dK hTwo).1).1;clear hsg hmb hfi;go_wp2_with fail;have hq:=M4.box wr 78 (f i).m.x (f i).m.y (f i).m.d (f i).m.e
     obtain⟨q0,q1,q2,q3⟩:=hq;have g5:=((aG wr (.cells #[.int .i64 (f i).m.x,.int .i64 (f i).m.y,.int .i64 (f i).m.d,.int .i64 (f i).m.e] 78)).cell (p:=⟨pb,off+i*5,none⟩) hblt).trans g0
     have HBQ:=aA (aC HBL.out (aG wr (.cells #[.int .i64 (f i).m.x,.int .i64 (f i).m.y,.int .i64 (f i).m.d,.int .i64 (f i).m.e] 78)));have HOQ:=aA (aT HOWN.out (aG wr (.cells #[.int .i64 (f i).m.x,.int .i64 (f i).m.y,.int .i64 (f i).m.d,.int .i64 (f i).m.e] 78)))
     have hqs:(wr.alloc (.cells #[.int .i64 (f i).m.x,.int .i64 (f i).m.y,.int .i64 (f i).m.d,.int .i64 (f i).m.e] 78)).heap.size=wr.heap.size+1:=by simp
     clear g0 g1 g2 g3 g4;generalize wr.alloc (.cells #[.int .i64 (f i).m.x,.int .i64 (f i).m.y,.int .i64 (f i).m.d,.int .i64 (f i).m.e] 78)=wq at hqs HBQ HOQ q0 q1 q2 q3 g5⊢;have HPUT:=aA (AG wq.drew w.heap.size _ K (eI (f i)) (fG (f i)) (aT HOQ.out (aD _ _).drew) HBQ.out.drew.size hKl hKf ⟨o1,hsr⟩ ⟨o2,rfl⟩)
     have hpbq:pb<wq.drew.heap.size:=by show pb<wq.heap.size;rw[hqs];omega
     have hb1q:wr.heap.size<wq.drew.heap.size:=by show wr.heap.size<wq.heap.size;omega
     have hS0:P5 pb (off+i*5) wr.heap.size (f i) wq.drew:=⟨g5,q0,q1,q2,q3⟩
     go_region_held3 (fun u=>u.cell? ⟨pb,off+i*5,none⟩=some (.int .i64 (f i).c)∧u.cell? ⟨wr.heap.size,0,none⟩=some (.int .i64 (f i).m.x)∧u.cell? ⟨wr.heap.size,1,none⟩=some (.int .i64 (f i).m.y)∧u.cell? ⟨wr.heap.size,2,none⟩=some (.int .i64 (f i).m.d)∧u.cell? ⟨wr.heap.size,3,none⟩=some (.int .i64 (f i).m.e)) (first|with_reducible exact hS0|with_reducible exact P5.below hS0 (by assumption) hpbq hb1q) (first|(go_at_call 105;refine(hsign _).mono ?_;rintro e w' ⟨rfl,hw'⟩;obtain rfl:=hw'.symm;clear hw')|(go_at_call 104;refine HPUT.out.mono ?_;rintro e w4 ⟨v4,rfl,hb4,ho4⟩;have HB4:Hid (Below w.heap.size w w4):=(aC HBQ.out.drew hb4);have HO4:=aA ho4;clear ho4))
     all_goals
      go_wp2;go_roundw
      case rel=>
       refine⟨i+1,by omega,by go_num,HB4.out,?_⟩;have ho5:=HO4.out
       cases hst:bO K (eI (f i)) (fG (f i))with
       |none=>
        rw[hst]at ho5;exact .inr ⟨rfl,iN (i:=i+1) (by rw[cQ,HM.out];show(bO K (eI (f i)) (fG (f i))).bind jP=none;rw[hst];rfl) n (by omega),ho5⟩
       |some K'=>
        rw[hst]at ho5;have hK':(dC K (aY (eI (f i)) (fG (f i)))).length≤400∧dC K (aY (eI (f i)) (fG (f i)))=K':=by
         unfold bO at hst;split at hst
         ·rename_i hh;exact⟨hh.2,Option.some.inj hst⟩
         ·cases hst
        refine .inl ⟨K',rfl,?_,hK'.2▸hfK,ho5⟩;rw[cQ,HM.out];show(bO K (eI (f i)) (fG (f i))).bind jP=_
        rw[hst];exact if_pos (hK'.2▸hK'.1)
      case measure=>simp[intOf];omega
    ·obtain rfl:i=n:=by omega
     have HOWN:=aA hown;have HBL:=aA hbl
     have HM:=aA hM;clear hown hbl hM;go_wp2;refine bT (results_tmp2 rfl _ _ _) rfl ?_;rw[HM.out];exact⟨_,rfl,HBL.out,HOWN.out⟩
   ·have HOWN:=aA hown;have HBL:=aA hbl
    have HM:=aA hM;clear hown hbl hM;by_cases hlt:i<n
    ·have hil:(i:Int)<(n:Int):=by omega
     go_wp2;refine bT (results_tmp2 rfl _ _ _) rfl ?_;rw[HM.out];exact⟨_,rfl,HBL.out,HOWN.out⟩
    ·obtain rfl:i=n:=by omega
     go_wp2;refine bT (results_tmp2 rfl _ _ _) rfl ?_;rw[HM.out];exact⟨_,rfl,HBL.out,HOWN.out⟩
def cH (f:Nat→T) (n:Nat):List T×Bool:=iS eJ f n
theorem nA (f:Nat→T) (n:Nat):(cH f n).1.length≤400:=tL _ _ _
theorem tJ (w:World) (a:Option Addr) (n cap:Nat) (f:Nat→T) (ha:Rd w a n cap f):Calls Tryz.prog 43 #[.slice a n cap] w fun r w'=>∃a' cap',r= .returned (.tuple #[.slice a' (cH f n).1.length cap',.bool (cH f n).2])∧Below w.heap.size w w'∧mB w.heap.size w' a' cap' (cH f n).1:=by
 have hc:=tK w a n cap f 89 #[] eJ (fun _=>True) (enters_of Tryz.func89 (by kernel_rfl) rfl) zC (fun _ _ _ _ _ _=>trivial) (fun _ _ _=>trivial) trivial ha;change Calls Tryz.prog 86 #[.slice a n cap,.func (.func 89) #[] #[]] w fun r w'=>∃v,r= .returned (.tuple #[v,.bool (cH f n).2])∧Below w.heap.size w w'∧w'.ownsRow w.heap.size 80 5 v (cH f n).1.length (aF (cH f n).1)at hc;have hlen:=nA f n
 generalize cH f n=V at hc hlen⊢;go_enter Tryz.func43,Tryz.ntmps43;go_wp2_with (go_at_call 86;refine hc.mono ?_;rintro r w1 ⟨v,rfl,hb1,ho1⟩);refine bT (results_tmp2 rfl _ _ _) rfl ?_;obtain⟨a',cap',rfl,hout⟩:=aM ho1 (by omega);exact⟨a',cap',rfl,hb1,hout⟩
theorem AM (w:World) (a:Option Addr) (n cap:Nat) (f:Nat→T) (h:Rd w a n cap f):Calls Tryz.prog 58 #[.slice a n cap] w fun r w'=>∃v,r= .returned (.tuple #[v,.bool (cH f n).2])∧Below w.heap.size w w'∧w'.ownsRow w.heap.size 80 5 v (cH f n).1.length (aF (cH f n).1):=by
 have HA:=aA h;have hn:(n:Int)≤140737488351232:=by have:=h.2.1;omega
 have hO0:=aQ w w.heap.size (Nat.le_refl _);have hB0:=aG w (.cells #[] 80)
 clear h;cases hpa:aN n f
 ·have e1:cH f n=([],false):=by simp[cH,iS,hpa]
  rw[e1];go_enter Tryz.func58,Tryz.ntmps58;go_wp2_with (go_at_call 74;refine(bD _ _ _ _ f (HA.out.below hB0)).mono ?_;rw[hpa];rintro r w1 ⟨rfl,hb1⟩;have HB1:=aA (aC hB0 hb1);have HO1:=aA (aT hO0 hb1);clear hb1);go_loopw [4,5,6] (fun v ok ii wr=>ok= .bool false∧ii= .int .i64 0∧wr.ownsRow w.heap.size 80 5 v 0 (aF [])∧Below w.heap.size w wr) (fun _ _ _ _=>0);case atStart=>exact⟨rfl,rfl,HO1.out,HB1.out⟩
  case round=>
   obtain⟨rfl,rfl,hown,hbl⟩:=hrel;by_cases h0:n=0
   ·subst h0;go_wp2;refine bT (results_tmp2 rfl _ _ _) rfl ?_;exact⟨_,rfl,hbl,hown⟩
   ·have hpos:(0:Int)<(n:Int):=by omega
    go_wp2;refine bT (results_tmp2 rfl _ _ _) rfl ?_;exact⟨_,rfl,hbl,hown⟩
 ·have e1:cH f n=eH (cQ eJ f n):=by simp[cH,iS,hpa]
  rw[e1];clear e1;have l1:=(fN hpa).1
  have HPA:=aA hpa;go_enter Tryz.func58,Tryz.ntmps58;go_wp2_with (go_at_call 74;refine(bD _ _ _ _ f (HA.out.below hB0)).mono ?_;rw[hpa];rintro r w1 ⟨rfl,hb1⟩;have HB1:=aA (aC hB0 hb1);have HO1:=aA (aT hO0 hb1);clear hb1);go_loopw [4,5,6] (fun v ok ii wr=>∃i:Nat,i≤n∧ii= .int .i64 (i:Int)∧Below w.heap.size w wr∧((∃K,ok= .bool true∧cQ eJ f i=some K∧aV K∧wr.ownsRow w.heap.size 80 5 v K.length (aF K))∨(ok= .bool false∧cQ eJ f n=none∧wr.ownsRow w.heap.size 80 5 v 0 (aF [])))) (fun _ _ ii _=>n-(intOf ii).toNat);case atStart=>exact⟨0,gC _,rfl,HB1.out,.inl ⟨[],rfl,rfl,cL,HO1.out⟩⟩
  case round=>
   obtain⟨i,hi,rfl,hbl,hcase⟩:=hrel;rcases hcase with⟨K,rfl,hM,hKf,hown⟩|⟨rfl,hM,hown⟩
   ·by_cases hlt:i<n
    ·have hil:(i:Int)<(n:Int):=by omega
     have hfi:=(cD HPA.out).2 i hlt;have hKl:=gK i K hM
     have HM:=aA hM;have HOWN:=aA hown
     have HBL:=aA hbl;clear hown hbl hM;have hri:=HA.out.below HBL.out
     rcases hri.2.2 with h0|⟨pb,off,hpe,hblt,hcl⟩
     ·omega
     subst hpe;obtain⟨g0,g1,g2,g3,g4⟩:=hcl i hlt;clear hcl hri;have hdb:=M.ok_iff.1 hfi.1
     obtain⟨o1,o2⟩:=uP hfi.1;have hsr:=iG (f i) ((f i).m.d+(f i).m.e)
     have hwr:IntKind.i64.wrap ((f i).m.d+(f i).m.e)=(f i).m.d+(f i).m.e:=by rw[IntKind.wrap_i64];omega
     have hsg:=mM ((f i).m.d+(f i).m.e);have hmb:=fF (show 0≤(f i).c by omega) hfi.2.2 hsg.1 hsg.2
     have hwm:IntKind.i64.wrap ((f i).c*rS ((f i).m.d+(f i).m.e))=(f i).c*rS ((f i).m.d+(f i).m.e):=by rw[IntKind.wrap_i64];omega
     have htm:((f i).c*rS ((f i).m.d+(f i).m.e)).tmod 101=sg (f i) ((f i).m.d+(f i).m.e):=Int.tmod_eq_emod_of_nonneg hmb.1;have hsign:∀u:World,Calls Tryz.prog 105 #[.int .i64 ((f i).m.d+(f i).m.e)] u fun e w'=>e= .returned (.int .i64 (rS ((f i).m.d+(f i).m.e)))∧w'=u:=fun u=>vY _ u (by omega) (by omega)
     have hok:((eG (f i)).m.sum (eZ (f i)).m).ok=true:=M.ok_iff.2 (by dsimp only[eG,eZ,M.sum];omega);have hTwo:jH (eG (f i)) (eZ (f i)) ((eG (f i)).m.sum (eZ (f i)).m):=jH.of o1 o2 hok hsr ⟨show(0:Int)≤1 by decide,show(1:Int)≤100 by decide⟩
     have hfK:=(eP hKf (dK hTwo).1).1;clear hsg hmb hfi;go_wp2_with fail;have hq:=M4.box wr 78 (f i).m.x (f i).m.y (f i).m.d (f i).m.e
     obtain⟨q0,q1,q2,q3⟩:=hq;have g5:=((aG wr (.cells #[.int .i64 (f i).m.x,.int .i64 (f i).m.y,.int .i64 (f i).m.d,.int .i64 (f i).m.e] 78)).cell (p:=⟨pb,off+i*5,none⟩) hblt).trans g0
     have HBQ:=aA (aC HBL.out (aG wr (.cells #[.int .i64 (f i).m.x,.int .i64 (f i).m.y,.int .i64 (f i).m.d,.int .i64 (f i).m.e] 78)));have HOQ:=aA (aT HOWN.out (aG wr (.cells #[.int .i64 (f i).m.x,.int .i64 (f i).m.y,.int .i64 (f i).m.d,.int .i64 (f i).m.e] 78)))
     have hqs:(wr.alloc (.cells #[.int .i64 (f i).m.x,.int .i64 (f i).m.y,.int .i64 (f i).m.d,.int .i64 (f i).m.e] 78)).heap.size=wr.heap.size+1:=by simp
     clear g0 g1 g2 g3 g4;generalize wr.alloc (.cells #[.int .i64 (f i).m.x,.int .i64 (f i).m.y,.int .i64 (f i).m.d,.int .i64 (f i).m.e] 78)=wq at hqs HBQ HOQ q0 q1 q2 q3 g5⊢;have HPUT:=aA (AG wq.drew w.heap.size _ K (eG (f i)) (eZ (f i)) (aT HOQ.out (aD _ _).drew) HBQ.out.drew.size hKl hKf ⟨o1,hsr⟩ ⟨o2,rfl⟩)
     have hpbq:pb<wq.drew.heap.size:=by show pb<wq.heap.size;rw[hqs];omega
     have hb1q:wr.heap.size<wq.drew.heap.size:=by show wr.heap.size<wq.heap.size;omega
     have hS0:P5 pb (off+i*5) wr.heap.size (f i) wq.drew:=⟨g5,q0,q1,q2,q3⟩
     go_region_held3 (fun u=>u.cell? ⟨pb,off+i*5,none⟩=some (.int .i64 (f i).c)∧u.cell? ⟨wr.heap.size,0,none⟩=some (.int .i64 (f i).m.x)∧u.cell? ⟨wr.heap.size,1,none⟩=some (.int .i64 (f i).m.y)∧u.cell? ⟨wr.heap.size,2,none⟩=some (.int .i64 (f i).m.d)∧u.cell? ⟨wr.heap.size,3,none⟩=some (.int .i64 (f i).m.e)) (first|with_reducible exact hS0|with_reducible exact P5.below hS0 (by assumption) hpbq hb1q) (first|(go_at_call 105;refine(hsign _).mono ?_;rintro e w' ⟨rfl,hw'⟩;obtain rfl:=hw'.symm;clear hw')|(go_at_call 104;refine HPUT.out.mono ?_;rintro e w4 ⟨v4,rfl,hb4,ho4⟩;have HB4:Hid (Below w.heap.size w w4):=(aC HBQ.out.drew hb4);have HO4:=aA ho4;clear ho4))
     all_goals
      go_wp2;go_roundw
      case rel=>
       refine⟨i+1,by omega,by go_num,HB4.out,?_⟩;have ho5:=HO4.out
       cases hst:bO K (eG (f i)) (eZ (f i))with
       |none=>
        rw[hst]at ho5;exact .inr ⟨rfl,iN (i:=i+1) (by rw[cQ,HM.out];show(bO K (eG (f i)) (eZ (f i))).bind jP=none;rw[hst];rfl) n (by omega),ho5⟩
       |some K'=>
        rw[hst]at ho5;have hK':(dC K (aY (eG (f i)) (eZ (f i)))).length≤400∧dC K (aY (eG (f i)) (eZ (f i)))=K':=by
         unfold bO at hst;split at hst
         ·rename_i hh;exact⟨hh.2,Option.some.inj hst⟩
         ·cases hst
        refine .inl ⟨K',rfl,?_,hK'.2▸hfK,ho5⟩;rw[cQ,HM.out];show(bO K (eG (f i)) (eZ (f i))).bind jP=_
        rw[hst];exact if_pos (hK'.2▸hK'.1)
      case measure=>simp[intOf];omega
    ·obtain rfl:i=n:=by omega
     have HOWN:=aA hown;have HBL:=aA hbl
     have HM:=aA hM;clear hown hbl hM;go_wp2;refine bT (results_tmp2 rfl _ _ _) rfl ?_;rw[HM.out];exact⟨_,rfl,HBL.out,HOWN.out⟩
   ·have HOWN:=aA hown;have HBL:=aA hbl
    have HM:=aA hM;clear hown hbl hM;by_cases hlt:i<n
    ·have hil:(i:Int)<(n:Int):=by omega
     go_wp2;refine bT (results_tmp2 rfl _ _ _) rfl ?_;rw[HM.out];exact⟨_,rfl,HBL.out,HOWN.out⟩
    ·obtain rfl:i=n:=by omega
     go_wp2;refine bT (results_tmp2 rfl _ _ _) rfl ?_;rw[HM.out];exact⟨_,rfl,HBL.out,HOWN.out⟩
end Go.Proofs.YtoglomfejgpoeaaGreatDoor
