/-
  How far two operators are from commuting: the program and the model.
-/
import Derived.Test.YtkcmamepoplcdaaGreatDoorVas
set_option maxHeartbeats 8000000
set_option maxRecDepth 100000
namespace Go.Proofs.YtkcmamepoplcdaaGreatDoor
open Go.RowKit
set_option linter.unusedVariables false
def cU (f:Nat→T) (la:Nat) (g:Nat→T) (lb:Nat):List T×Bool:=
 if(bB f la g lb).2=true∧(bB g lb f la).2=true then gV (lf (bB f la g lb).1) (bB f la g lb).1.length (lf (bB g lb f la).1) (bB g lb f la).1.length else([],false)
theorem xO (f:Nat→T) (la:Nat) (g:Nat→T) (lb:Nat):(cU f la g lb).1.length≤400:=by
 unfold cU;split
 ·exact sO _ _ _ _
 ·simp
theorem GB (w:World) (a b:Option Addr) (la ca lb cb:Nat) (f g:Nat→T) (ha:Rd w a la ca f) (hb:Rd w b lb cb g):Calls Tryz.prog 79 #[.slice a la ca,.slice b lb cb] w fun r w'=>∃a' cap',r= .returned (.tuple #[.slice a' (cU f la g lb).1.length cap',.bool (cU f la g lb).2])∧Below w.heap.size w w'∧iT w.heap.size w' a' cap' (cU f la g lb).1:=by
 have HA:=aA ha;have HB:=aA hb
 have hc1:=xP w a b la ca lb cb f g ha hb;have hc2:=fun(w1:World) (h1:Rd w1 b lb cb g) (h2:Rd w1 a la ca f)=>xP w1 b a lb cb la ca g f h1 h2
 have hla:(la:Int)≤140737488351232:=by have:=ha.2.1;omega
 have hlb:(lb:Int)≤140737488351232:=by have:=hb.2.1;omega
 have hl1:=lF f la g lb;have hl2:=lF g lb f la
 clear ha hb;unfold cU;generalize bB f la g lb=p at *;generalize bB g lb f la=q at *;obtain⟨X,k1⟩:=p;obtain⟨Y,k2⟩:=q;dsimp only at hc1 hc2 hl1 hl2⊢;have hnil:∀(W:World),iT w.heap.size W none 0 ([]:List T):=fun W=>⟨⟨Nat.le_refl _,by simp,.inl rfl⟩,.inl rfl,.inl rfl⟩
 cases k1
 ·rw[if_neg (by simp)];go_enter Tryz.func79,Tryz.ntmps79;go_wp2_with fail;refine hc1.mono ?_;rintro r w1 ⟨a1,c1,rfl,hb1,ho1⟩;have HB1:=aA hb1
  clear hb1 ho1;go_wp2_with fail;refine(hc2 w1 (HB.out.below HB1.out) (HA.out.below HB1.out)).mono ?_;rintro r w2 ⟨a2,c2,rfl,hb2,ho2⟩;have HB2:=aA (aC HB1.out hb2)
  clear hb2 ho2;go_wp2;refine aY (results_tmp2 rfl _ _ _) rfl ?_;exact⟨none,0,rfl,HB2.out,hnil w2⟩
 ·cases k2
  ·rw[if_neg (by simp)];go_enter Tryz.func79,Tryz.ntmps79;go_wp2_with fail;refine hc1.mono ?_;rintro r w1 ⟨a1,c1,rfl,hb1,ho1⟩;have HB1:=aA hb1
   clear hb1 ho1;go_wp2_with fail;refine(hc2 w1 (HB.out.below HB1.out) (HA.out.below HB1.out)).mono ?_;rintro r w2 ⟨a2,c2,rfl,hb2,ho2⟩;have HB2:=aA (aC HB1.out hb2)
   clear hb2 ho2;go_wp2;refine aY (results_tmp2 rfl _ _ _) rfl ?_;exact⟨none,0,rfl,HB2.out,hnil w2⟩
  ·rw[if_pos ⟨rfl,rfl⟩];go_enter Tryz.func79,Tryz.ntmps79;go_wp2_with fail;refine hc1.mono ?_;rintro r w1 ⟨a1,c1,rfl,hb1,ho1⟩;have HB1:=aA hb1
   have HO1:=aA ho1;clear hb1 ho1;go_wp2_with fail;refine(hc2 w1 (HB.out.below HB1.out) (HA.out.below HB1.out)).mono ?_;rintro r w2 ⟨a2,c2,rfl,hb2,ho2⟩;have HB2:=aA (aC HB1.out hb2)
   have HR1:=aA (HO1.out.1.below hb2);have HR2:=aA ho2.1
   clear hb2 ho2;go_wp2_with (go_at_call 113;refine(OV _ _ _ _ _ _ _ (lf X) (lf Y) HR1.out HR2.out).mono ?_;rintro r w3 ⟨a3,c3,rfl,hb3,ho3⟩);refine aY (results_tmp2 rfl _ _ _) rfl ?_;refine⟨a3,c3,rfl,aC HB2.out hb3,ho3.1,ho3.2.1,ho3.2.2.imp id ?_⟩;rintro⟨g',off,e,hg⟩;exact⟨g',off,e,iS HB2.out.size hg⟩
theorem GX {f g:Nat→T} {la lb:Nat} (h1:aK la f=true) (h2:aK lb g=true) {X Y:List T} (hX:eN f g lb la=some X) (hY:eN g f la lb=some Y):gV (lf X) X.length (lf Y) Y.length=if(dF (lf X) X.length (mF (lf Y) Y.length) Y.length 0 0).length≤400 then(dF (lf X) X.length (mF (lf Y) Y.length) Y.length 0 0,true)else([],false):=by
 have fX:=jN (gZ h1).2 (gZ h2).2 la X (Nat.le_refl _) hX;have fY:=jN (gZ h2).2 (gZ h1).2 lb Y (Nat.le_refl _) hY
 simp[gV,zJ fX (jO la X hX),zJ fY (jO lb Y hY)]
theorem GC (w:World) (a b:Option Addr) (la ca lb cb:Nat) (f g:Nat→T) (ha:Rd w a la ca f) (hb:Rd w b lb cb g):Calls Tryz.prog 71 #[.slice a la ca,.slice b lb cb] w fun r w'=>∃v,r= .returned (.tuple #[v,.bool (cU f la g lb).2])∧Below w.heap.size w w'∧w'.ownsRow w.heap.size 79 5 v (cU f la g lb).1.length (aG (cU f la g lb).1):=by
 have HA:=aA ha;have HB:=aA hb
 clear ha hb;cases hpa:aK la f
 ·have e1:cU f la g lb=([],false):=by simp[cU,bB,hpa]
  rw[e1];go_enter Tryz.func71,Tryz.ntmps71;go_wp2_with (go_at_call 29;refine(bD _ _ _ _ f HA.out).mono ?_;rw[hpa];rintro r w1 ⟨rfl,hb1⟩;have HB1:=aA hb1;clear hb1);refine aY (results_tmp2 rfl _ _ _) rfl ?_;exact⟨_,rfl,HB1.out.alloc HB1.out.size _,aS w1 w.heap.size HB1.out.size⟩
 ·cases hpb:aK lb g
  ·have e1:cU f la g lb=([],false):=by simp[cU,bB,hpb]
   rw[e1];go_enter Tryz.func71,Tryz.ntmps71
   go_wp2_with (first
    |(go_at_call_of 29 (Value.slice a la ca);refine(bD _ _ _ _ f HA.out).mono ?_;rw[hpa];rintro r w1 ⟨rfl,hb1⟩;have HB1:=aA hb1;clear hb1)
    |(go_at_call_of 29 (Value.slice b lb cb);refine(bD _ _ _ _ g (HB.out.below HB1.out)).mono ?_;rw[hpb];rintro r w2 ⟨rfl,hb2⟩;have HB2:=aA (aC HB1.out hb2);clear hb2))
   refine aY (results_tmp2 rfl _ _ _) rfl ?_;exact⟨_,rfl,HB2.out.alloc HB2.out.size _,aS w2 w.heap.size HB2.out.size⟩
  ·obtain⟨l1,gf⟩:=gZ hpa;obtain⟨l2,gg⟩:=gZ hpb;have m1:bB f la g lb=gL (eN f g lb la):=by simp[bB,hpa,hpb]
   have m2:bB g lb f la=gL (eN g f la lb):=by simp[bB,hpa,hpb]
   have hc1:=fun(W:World) h h'=>JX W a b la ca lb cb f g h h' l1 l2 gf gg;have hc2:=fun(W:World) h h'=>JX W b a lb cb la ca g f h h' l2 l1 gg gf
   have HPA:=aA hpa;have HPB:=aA hpb
   unfold cU;rw[m1,m2];cases hX:eN f g lb la with
   |none=>
    rw[hX]at hc1;rw[if_neg (by simp[gL])];go_enter Tryz.func71,Tryz.ntmps71
    go_wp2_with (first
     |(go_at_call_of 29 (Value.slice a la ca);refine(bD _ _ _ _ f HA.out).mono ?_;rw[hpa];rintro r w1 ⟨rfl,hb1⟩;have HB1:=aA hb1;clear hb1)
     |(go_at_call_of 29 (Value.slice b lb cb);refine(bD _ _ _ _ g (HB.out.below HB1.out)).mono ?_;rw[hpb];rintro r w2 ⟨rfl,hb2⟩;have HB2:=aA (aC HB1.out hb2);clear hb2))
    refine(hc1 _ (HA.out.below HB2.out) (HB.out.below HB2.out)).mono ?_;dsimp only[gL];rintro r w3 ⟨v3,rfl,hb3,ho3⟩;have HB3:=aA (aC HB2.out hb3)
    clear hb3 ho3;go_wp2_with fail;refine(hc2 _ (HB.out.below HB3.out) (HA.out.below HB3.out)).mono ?_;rintro r w4 ⟨v4,rfl,hb4,ho4⟩;have HB4:=aA (aC HB3.out hb4)
    clear hb4 ho4;go_wp2;refine aY (results_tmp2 rfl _ _ _) rfl ?_;exact⟨_,rfl,HB4.out.alloc HB4.out.size _,aS w4 w.heap.size HB4.out.size⟩
   |some X=>
    rw[hX]at hc1;cases hY:eN g f la lb with
    |none=>
     rw[hY]at hc2;rw[if_neg (by simp[gL])];go_enter Tryz.func71,Tryz.ntmps71
     go_wp2_with (first
      |(go_at_call_of 29 (Value.slice a la ca);refine(bD _ _ _ _ f HA.out).mono ?_;rw[hpa];rintro r w1 ⟨rfl,hb1⟩;have HB1:=aA hb1;clear hb1)
      |(go_at_call_of 29 (Value.slice b lb cb);refine(bD _ _ _ _ g (HB.out.below HB1.out)).mono ?_;rw[hpb];rintro r w2 ⟨rfl,hb2⟩;have HB2:=aA (aC HB1.out hb2);clear hb2))
     refine(hc1 _ (HA.out.below HB2.out) (HB.out.below HB2.out)).mono ?_;dsimp only[gL];rintro r w3 ⟨v3,rfl,hb3,ho3⟩;have HB3:=aA (aC HB2.out hb3)
     clear hb3 ho3;go_wp2_with fail;refine(hc2 _ (HB.out.below HB3.out) (HA.out.below HB3.out)).mono ?_;dsimp only[gL];rintro r w4 ⟨v4,rfl,hb4,ho4⟩;have HB4:=aA (aC HB3.out hb4)
     clear hb4 ho4;go_wp2;refine aY (results_tmp2 rfl _ _ _) rfl ?_;exact⟨_,rfl,HB4.out.alloc HB4.out.size _,aS w4 w.heap.size HB4.out.size⟩
    |some Y=>
     rw[hY]at hc2;rw[if_pos (by simp[gL])];show Calls Tryz.prog 71 #[.slice a la ca,.slice b lb cb] w fun r w'=>∃v,r= .returned (.tuple #[v,.bool (gV (lf X) X.length (lf Y) Y.length).2])∧Below w.heap.size w w'∧w'.ownsRow w.heap.size 79 5 v (gV (lf X) X.length (lf Y) Y.length).1.length (aG (gV (lf X) X.length (lf Y) Y.length).1)
     rw[GX HPA.out HPB.out hX hY];have fX:=jN gf gg la X (Nat.le_refl _) hX
     have fY:=jN gg gf lb Y (Nat.le_refl _) hY;have lX:=jO la X hX
     have lY:=jO lb Y hY;have nF:=JZ (yX fY)
     have hal:=lU (lf X) X.length (mF (lf Y) Y.length) Y.length 0 0;simp only[Nat.sub_zero]at hal;have key:∀(W:World) (v:Value),Below w.heap.size w W→True:=fun _ _ _=>trivial
     go_enter Tryz.func71,Tryz.ntmps71
     go_wp2_with (first
      |(go_at_call_of 29 (Value.slice a la ca);refine(bD _ _ _ _ f HA.out).mono ?_;rw[hpa];rintro r w1 ⟨rfl,hb1⟩;have HB1:=aA hb1;clear hb1)
      |(go_at_call_of 29 (Value.slice b lb cb);refine(bD _ _ _ _ g (HB.out.below HB1.out)).mono ?_;rw[hpb];rintro r w2 ⟨rfl,hb2⟩;have HB2:=aA (aC HB1.out hb2);clear hb2))
     refine(hc1 _ (HA.out.below HB2.out) (HB.out.below HB2.out)).mono ?_;dsimp only[gL];rintro r w3 ⟨v3,rfl,hb3,ho3⟩;obtain⟨a3,c3,rfl,hout3⟩:=aJ ho3 (by omega);have HB3:=aA (aC HB2.out hb3)
     have HX3:=aA hout3.1;clear hb3 ho3 hout3;go_wp2_with fail;refine(hc2 _ (HB.out.below HB3.out) (HA.out.below HB3.out)).mono ?_;dsimp only[gL];rintro r w4 ⟨v4,rfl,hb4,ho4⟩;obtain⟨a4,c4,rfl,hout4⟩:=aJ ho4 (by omega);have HB4:=aA (aC HB3.out hb4)
     have HX4:=aA (HX3.out.below hb4);have HY4:=aA hout4.1
     clear hb4 ho4 hout4;go_wp2_with fail;have hsc:=JH w4 100 a4 Y.length c4 (lf Y) HY4.out (by omega) (by omega) (by omega) ((dY fY).at)
     rw[if_neg (by omega)]at hsc;refine hsc.mono ?_;rintro r w5 ⟨v5,rfl,hb5,ho5⟩;have eS:(DS 100 (lf Y) Y.length).length=Y.length:=PA _ _ _
     have ho5':w5.ownsRow w4.heap.size 79 5 v5 (DS 100 (lf Y) Y.length).length (aG (DS 100 (lf Y) Y.length)):=by rw[eS];exact ho5
     obtain⟨a5,c5,rfl,hout5⟩:=aJ ho5' (by omega);have hR5:Rd w5 a5 Y.length c5 (mF (lf Y) Y.length):=by have:=hout5.1;rw[eS]at this;exact this
     have HB5:=aA (aC HB4.out hb5);have HX5:=aA (HX4.out.below hb5)
     have HY5:=aA hR5;clear hb5 ho5 ho5' hout5 hR5;rw[eS];have hadd:=pO w5 a3 a5 X.length c3 Y.length c5 (lf X) (mF (lf Y) Y.length) HX5.out HY5.out (by omega) ((dY fX).at) (fun i hi=>by have:=nF.2 i hi;omega)
     generalize hL:dF (lf X) X.length (mF (lf Y) Y.length) Y.length 0 0=L at *;by_cases h4:L.length≤400
     ·have h4':(L.length:Int)≤400:=by omega
      go_wp2_with (go_at_call 100;refine hadd.mono ?_;rintro r w6 ⟨v6,rfl,hb6,ho6⟩;obtain⟨a6,c6,rfl,hout6⟩:=aJ ho6 (by omega));all_goals(refine aY (results_tmp2 rfl _ _ _) rfl ?_)
      all_goals exact⟨_,rfl,aC HB5.out hb6,eJ ho6 HB5.out.size⟩
     ·have h4':(400:Int)<(L.length:Int):=by omega
      go_wp2_with (go_at_call 100;refine hadd.mono ?_;rintro r w6 ⟨v6,rfl,hb6,ho6⟩;obtain⟨a6,c6,rfl,hout6⟩:=aJ ho6 (by omega));all_goals(refine aY (results_tmp2 rfl _ _ _) rfl ?_)
      all_goals(have hB6:=aC HB5.out hb6)
      all_goals exact⟨_,rfl,hB6.alloc hB6.size _,aS w6 w.heap.size hB6.size⟩
open Go.RowKit Go.Maps
def GN (g:Nat) (lb:Array Value) (st:List T→T→Option (List T)) (Q:World→Prop):Prop:=
 ∀(W:World) (b:Nat) (c:M→Int) (K:List T) (t:T),fD W b 65536 c→bC K→(∀m,m.ok=true→bV K m=c m)→K.length≤400→(t.m.ok=true∧1≤t.c∧t.c≤100)→Q W→
  Calls Tryz.prog g (#[.map (some b),.agg #[.int .i64 t.c,.int .i64 t.m.x,.int .i64 t.m.y,.int .i64 t.m.d,.int .i64 t.m.e]]++lb) W fun e w'=>W.grownBy w' (some b)∧
   ((∃K' c',st K t=some K'∧e= .returned (.bool true)∧fD w' b 65536 c'∧bC K'∧∀m,m.ok=true→bV K' m=c' m)∨(st K t=none∧e= .returned (.bool false)))
def pQ (K:List T):Option (List T):=if K.length≤400 then some K else none
def dU (st:List T→T→Option (List T)) (f:Nat→T):Nat→Option (List T)
 |0=>some []
 |i+1=>(dU st f i).bind fun K=>(st K (f i)).bind pQ
theorem kV {st:List T→T→Option (List T)} {f:Nat→T} {i:Nat} (h:dU st f i=none):∀j,i≤j→dU st f j=none:=fun j hj=>by
 induction j with
 |zero=>
  have e:i=0:=by omega
  rw[e]at h;exact h
 |succ j ih=>
  by_cases e:i=j+1
  ·rw[←e];exact h
  ·rw[dU,ih (by omega)];rfl
theorem kG {st:List T→T→Option (List T)} {f:Nat→T}:∀i K,dU st f i=some K→K.length≤400
 |0,K,h=>by cases h;exact iK _
 |i+1,K,h=>by
  rw[dU]at h;cases hr:dU st f i with
  |none=>rw[hr]at h;cases h
  |some K1=>
   rw[hr]at h;change (st K1 (f i)).bind pQ=some K at h;cases hs:st K1 (f i)with
   |none=>rw[hs]at h;cases h
   |some K2=>
    rw[hs]at h;change pQ K2=some K at h;unfold pQ at h;split at h
    ·cases h;assumption
    ·cases h
def nM (st:List T→T→Option (List T)) (f:Nat→T) (la:Nat):List T×Bool:=if aK la f=true then gL (dU st f la)else([],false)
theorem zG (st:List T→T→Option (List T)) (f:Nat→T) (la:Nat):(nM st f la).1.length≤400:=by
 unfold nM;split
 ·cases h:dU st f la with
  |none=>simp[gL]
  |some K=>exact kG la K h
 ·simp
theorem zF (w:World) (a:Option Addr) (la ca:Nat) (f:Nat→T) (g:Nat) (lb:Array Value) (st:List T→T→Option (List T)) (Q:World→Prop) (eg:∀args w,(callFunc g args).run Tryz.prog w= .ok (.enter g args) w) (hT:GN g lb st Q) (hQ:∀W W' b,Q W→w.heap.size≤b→W.grownBy W' (some b)→Q W') (hQb:∀W',Q w→Below w.heap.size w W'→Q W') (hq:Q w) (ha:Rd w a la ca f):Calls Tryz.prog 118 #[.slice a la ca,.func (.func g) #[] lb] w fun r w'=>∃v,r= .returned (.tuple #[v,.bool (nM st f la).2])∧Below w.heap.size w w'∧w'.ownsRow w.heap.size 79 5 v (nM st f la).1.length (aG (nM st f la).1):=by
 have HA:=aA ha;have HT:=aA hT
 have HQ:=aA hQ;have HQB:=aA hQb
 have hla:(la:Int)≤140737488351232:=by have:=ha.2.1;omega
 clear ha hT hQ hQb;cases hpa:aK la f
 ·have e1:nM st f la=([],false):=by simp[nM,hpa]
  rw[e1];go_enter Tryz.func118,Tryz.ntmps118;go_wp2_with (go_at_call 57;refine(eF _ _ _ _ f HA.out).mono ?_;rw[hpa];rintro r w1 ⟨rfl,hb1⟩;have HB1:=aA hb1;clear hb1);refine aY (results_tmp2 rfl _ _ _) rfl ?_;exact⟨_,rfl,HB1.out,dS w1 _⟩
 ·have e2:nM st f la=gL (dU st f la):=by simp[nM,hpa]
  rw[e2];clear e2;have l1:la≤400:=by have h:=hpa;simp only[aK,decide_eq_true_eq]at h;exact h.1
  have HPA:=aA hpa;have hmm:=@run_makeMap Tryz.prog
  go_enter Tryz.func118,Tryz.ntmps118;go_wp2_with (go_at_call 57;refine(eF _ _ _ _ f HA.out).mono ?_;rw[hpa];rintro r w2 ⟨rfl,hb2⟩;have HB2:=aA hb2;clear hb2);clear hpa;have HRA:=aA (HA.out.below HB2.out)
  have HNA:=aA (HRA.out.apart (Nat.le_refl _));have hlo:w.heap.size≤w2.heap.size:=HB2.out.size
  have HS0:=aA ((xI w2).cap);have HG0:=aA (World.grownBy_alloc w2 (.map #[] 0) (some w2.heap.size))
  have HQ0:=aA (HQ.out _ _ _ (HQB.out w2 hq HB2.out) hlo HG0.out);generalize hw3:w2.alloc (.map #[] 0)=w3 at *;clear hw3 hmm;go_loopw [15] (fun v wr=>∃(i:Nat) (K:List T) (c:M→Int),i≤la∧v= .int .i64 (i:Int)∧dU st f i=some K∧bC K∧(∀m,m.ok=true→bV K m=c m)∧fD wr w2.heap.size 65536 c∧w2.grownBy wr (some w2.heap.size)∧Q wr) (fun v _=>la-(intOf v).toNat);case atStart=>exact⟨0,[],fun _=>0,iK _,rfl,rfl,eC,fun _ _=>rfl,HS0.out,HG0.out,HQ0.out⟩
  case round=>
   obtain⟨i,K,c,hi,rfl,hM,hKf,hKc,hS,hg,hqr⟩:=hrel;by_cases hlt:i<la
   ·have hil:(i:Int)<(la:Int):=by omega
    have hri:=HRA.out.grown hg HNA.out;rcases hri.2.2 with h0|⟨pb,off,hpe,hblt,hcl⟩
    ·omega
    obtain⟨g0,g1,g2,g3,g4⟩:=hcl i hlt;have hfi:=(cO HPA.out).2 i hlt
    have hKl:=kG i K hM;have hg1:=World.grownBy_alloc wr (.cells #[.int .i64 (f i).c,.int .i64 (f i).m.x,.int .i64 (f i).m.y,.int .i64 (f i).m.d,.int .i64 (f i).m.e] 79) (some w2.heap.size)
    have hcall:=HT.out (wr.alloc (.cells #[.int .i64 (f i).c,.int .i64 (f i).m.x,.int .i64 (f i).m.y,.int .i64 (f i).m.d,.int .i64 (f i).m.e] 79)) w2.heap.size c K (f i) (hS.grown (World.grownBy_alloc wr (.cells #[.int .i64 (f i).c,.int .i64 (f i).m.x,.int .i64 (f i).m.y,.int .i64 (f i).m.d,.int .i64 (f i).m.e] 79) none) (by simp)) hKf hKc hKl hfi (HQ.out _ _ _ hqr hlo hg1);have HC:=aA hcall
    have HS:=aA hS;have HG:=aA (hg.trans hg1)
    have HM:=aA hM;have HQR:=aA (HQ.out _ _ _ hqr hlo hg1)
    clear hcl hri hS hg hM hg1 hcall hqr;subst hpe;go_wp2_with fail;refine HC.out.mono ?_;rintro r w4 ⟨hg4,(⟨K',c',hst,rfl,hs4,hf4,hc4⟩|⟨hst,rfl⟩)⟩
    ·have HS4:=aA hs4;have HG4:=aA (HG.out.trans hg4)
     have HQ4:=aA (HQ.out _ _ _ HQR.out hlo hg4);obtain⟨D,ho,hcr,hat,hks⟩:=hs4;have hsz:=xB ho hat hks hf4 hc4
     have hlen:=ho.len Tryz.underlying120 3;rw[hsz]at hlen;clear ho hat hks hcr hg4 hsz;by_cases h4:K'.length≤400
     ·have h4':(K'.length:Int)≤400:=by omega
      have HST:Hid (dU st f (i+1)=some K'):=by
       show _=_;rw[dU,HM.out];show(st K (f i)).bind pQ=_
       rw[hst];show pQ K'=_
       exact if_pos h4
      go_wp2;go_roundw;case rel=>exact⟨i+1,K',c',by omega,by go_num,HST.out,hf4,hc4,HS4.out,HG4.out,HQ4.out⟩
      case measure=>simp[intOf];omega
     ·have h4':(400:Int)<(K'.length:Int):=by omega
      have hno:dU st f la=none:=kV (i:=i+1) (by
       rw[dU,HM.out];show(st K (f i)).bind pQ=_
       rw[hst];show pQ K'=_
       exact if_neg h4) la (by omega)
      go_wp2;refine aY (results_tmp2 rfl _ _ _) rfl ?_;rw[hno];exact⟨_,rfl,HB2.out.grown HG4.out hlo (fun k' e=>by cases e;exact hlo),dS w4 _⟩
    ·have hno:dU st f la=none:=kV (i:=i+1) (by
      rw[dU,HM.out];show(st K (f i)).bind pQ=_
      rw[hst]
      rfl) la (by omega)
     have HG4:=aA (HG.out.trans hg4);clear hg4;go_wp2;refine aY (results_tmp2 rfl _ _ _) rfl ?_;rw[hno];exact⟨_,rfl,HB2.out.grown HG4.out hlo (fun k' e=>by cases e;exact hlo),dS w4 _⟩
   ·obtain rfl:i=la:=by omega
    have hKl:=kG _ _ hM;have e3:gL (dU st f i)=iR K:=by rw[hM];simp[gL,iR,hKl]
    go_wp2_with (go_at_call 112;refine(xJ _ _ _ _ hS (by omega) hKf hKc).mono ?_;rintro r w5 ⟨v,rfl,hb5,ho5⟩);refine aY (results_tmp2 rfl _ _ _) rfl ?_;rw[e3];have hB4:Below w.heap.size w wr:=HB2.out.grown hg hlo (fun k' e=>by cases e;exact hlo)
    exact⟨_,rfl,hB4.trans (hb5.mono hB4.size),eJ ho5 hB4.size⟩
end Go.Proofs.YtkcmamepoplcdaaGreatDoor
