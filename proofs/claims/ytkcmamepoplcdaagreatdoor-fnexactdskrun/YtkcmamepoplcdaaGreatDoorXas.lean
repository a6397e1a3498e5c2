/-
  How far two operators are from commuting: the program and the model.
-/
import Derived.Test.YtkcmamepoplcdaaGreatDoorXar
set_option maxHeartbeats 8000000
set_option maxRecDepth 100000
namespace Go.Proofs.YtkcmamepoplcdaaGreatDoor
open Go.RowKit
set_option linter.unusedVariables false
def cK (f:Nat→T) (la:Nat) (g:Nat→T) (lb:Nat):List T×Bool:=
 if(aW f la g lb).2=true∧(aW g lb f la).2=true then gI (lf (aW f la g lb).1) (aW f la g lb).1.length (lf (aW g lb f la).1) (aW g lb f la).1.length else([],false)
theorem wM (f:Nat→T) (la:Nat) (g:Nat→T) (lb:Nat):(cK f la g lb).1.length≤400:=by
 unfold cK;split
 ·exact rV _ _ _ _
 ·simp
theorem EL (w:World) (a b:Option Addr) (la ca lb cb:Nat) (f g:Nat→T) (ha:Rd w a la ca f) (hb:Rd w b lb cb g):Calls Tryz.prog 79 #[.slice a la ca,.slice b lb cb] w fun r w'=>∃a' cap',r= .returned (.tuple #[.slice a' (cK f la g lb).1.length cap',.bool (cK f la g lb).2])∧Below w.heap.size w w'∧iJ w.heap.size w' a' cap' (cK f la g lb).1:=by
 have HA:=aA ha;have HB:=aA hb
 have hc1:=wN w a b la ca lb cb f g ha hb;have hc2:=fun(w1:World) (h1:Rd w1 b lb cb g) (h2:Rd w1 a la ca f)=>wN w1 b a lb cb la ca g f h1 h2
 have hla:(la:Int)≤140737488351232:=by have:=ha.2.1;omega
 have hlb:(lb:Int)≤140737488351232:=by have:=hb.2.1;omega
 have hl1:=kQ f la g lb;have hl2:=kQ g lb f la
 clear ha hb;unfold cK;generalize aW f la g lb=p at *;generalize aW g lb f la=q at *;obtain⟨X,k1⟩:=p;obtain⟨Y,k2⟩:=q;dsimp only at hc1 hc2 hl1 hl2⊢;have hnil:∀(W:World),iJ w.heap.size W none 0 ([]:List T):=fun W=>⟨⟨Nat.le_refl _,by simp,.inl rfl⟩,.inl rfl,.inl rfl⟩
 cases k1
 ·rw[if_neg (by simp)];go_enter Tryz.func79,Tryz.ntmps79;go_wp2_with fail;refine hc1.mono ?_;rintro r w1 ⟨a1,c1,rfl,hb1,ho1⟩;have HB1:=aA hb1
  clear hb1 ho1;go_wp2_with fail;refine(hc2 w1 (HB.out.below HB1.out) (HA.out.below HB1.out)).mono ?_;rintro r w2 ⟨a2,c2,rfl,hb2,ho2⟩;have HB2:=aA (aC HB1.out hb2)
  clear hb2 ho2;go_wp2;refine bC (results_tmp2 rfl _ _ _) rfl ?_;exact⟨none,0,rfl,HB2.out,hnil w2⟩
 ·cases k2
  ·rw[if_neg (by simp)];go_enter Tryz.func79,Tryz.ntmps79;go_wp2_with fail;refine hc1.mono ?_;rintro r w1 ⟨a1,c1,rfl,hb1,ho1⟩;have HB1:=aA hb1
   clear hb1 ho1;go_wp2_with fail;refine(hc2 w1 (HB.out.below HB1.out) (HA.out.below HB1.out)).mono ?_;rintro r w2 ⟨a2,c2,rfl,hb2,ho2⟩;have HB2:=aA (aC HB1.out hb2)
   clear hb2 ho2;go_wp2;refine bC (results_tmp2 rfl _ _ _) rfl ?_;exact⟨none,0,rfl,HB2.out,hnil w2⟩
  ·rw[if_pos ⟨rfl,rfl⟩];go_enter Tryz.func79,Tryz.ntmps79;go_wp2_with fail;refine hc1.mono ?_;rintro r w1 ⟨a1,c1,rfl,hb1,ho1⟩;have HB1:=aA hb1
   have HO1:=aA ho1;clear hb1 ho1;go_wp2_with fail;refine(hc2 w1 (HB.out.below HB1.out) (HA.out.below HB1.out)).mono ?_;rintro r w2 ⟨a2,c2,rfl,hb2,ho2⟩;have HB2:=aA (aC HB1.out hb2)
   have HR1:=aA (HO1.out.1.below hb2);have HR2:=aA ho2.1
   clear hb2 ho2;go_wp2_with (go_at_call 113;refine(MW _ _ _ _ _ _ _ (lf X) (lf Y) HR1.out HR2.out).mono ?_;rintro r w3 ⟨a3,c3,rfl,hb3,ho3⟩);refine bC (results_tmp2 rfl _ _ _) rfl ?_;refine⟨a3,c3,rfl,aC HB2.out hb3,ho3.1,ho3.2.1,ho3.2.2.imp id ?_⟩;rintro⟨g',off,e,hg⟩;exact⟨g',off,e,jW HB2.out.size hg⟩
theorem FH {f g:Nat→T} {la lb:Nat} (h1:aH la f=true) (h2:aH lb g=true) {X Y:List T} (hX:dY f g lb la=some X) (hY:dY g f la lb=some Y):gI (lf X) X.length (lf Y) Y.length=if(cV (lf X) X.length (lL (lf Y) Y.length) Y.length 0 0).length≤400 then(cV (lf X) X.length (lL (lf Y) Y.length) Y.length 0 0,true)else([],false):=by
 have fX:=iW (gM h1).2 (gM h2).2 la X (Nat.le_refl _) hX;have fY:=iW (gM h2).2 (gM h1).2 lb Y (Nat.le_refl _) hY
 simp[gI,yI fX (iX la X hX),yI fY (iX lb Y hY)]
theorem EM (w:World) (a b:Option Addr) (la ca lb cb:Nat) (f g:Nat→T) (ha:Rd w a la ca f) (hb:Rd w b lb cb g):Calls Tryz.prog 71 #[.slice a la ca,.slice b lb cb] w fun r w'=>∃v,r= .returned (.tuple #[v,.bool (cK f la g lb).2])∧Below w.heap.size w w'∧w'.ownsRow w.heap.size 79 5 v (cK f la g lb).1.length (aG (cK f la g lb).1):=by
 have HA:=aA ha;have HB:=aA hb
 clear ha hb;cases hpa:aH la f
 ·have e1:cK f la g lb=([],false):=by simp[cK,aW,hpa]
  rw[e1];go_enter Tryz.func71,Tryz.ntmps71;go_wp2_with (go_at_call 29;refine(aY _ _ _ _ f HA.out).mono ?_;rw[hpa];rintro r w1 ⟨rfl,hb1⟩;have HB1:=aA hb1;clear hb1);refine bC (results_tmp2 rfl _ _ _) rfl ?_;exact⟨_,rfl,HB1.out.alloc HB1.out.size _,aQ w1 w.heap.size HB1.out.size⟩
 ·cases hpb:aH lb g
  ·have e1:cK f la g lb=([],false):=by simp[cK,aW,hpb]
   rw[e1];go_enter Tryz.func71,Tryz.ntmps71
   go_wp2_with (first
    |(go_at_call_of 29 (Value.slice a la ca);refine(aY _ _ _ _ f HA.out).mono ?_;rw[hpa];rintro r w1 ⟨rfl,hb1⟩;have HB1:=aA hb1;clear hb1)
    |(go_at_call_of 29 (Value.slice b lb cb);refine(aY _ _ _ _ g (HB.out.below HB1.out)).mono ?_;rw[hpb];rintro r w2 ⟨rfl,hb2⟩;have HB2:=aA (aC HB1.out hb2);clear hb2))
   refine bC (results_tmp2 rfl _ _ _) rfl ?_;exact⟨_,rfl,HB2.out.alloc HB2.out.size _,aQ w2 w.heap.size HB2.out.size⟩
  ·obtain⟨l1,gf⟩:=gM hpa;obtain⟨l2,gg⟩:=gM hpb;have m1:aW f la g lb=fZ (dY f g lb la):=by simp[aW,hpa,hpb]
   have m2:aW g lb f la=fZ (dY g f la lb):=by simp[aW,hpa,hpb]
   have hc1:=fun(W:World) h h'=>IC W a b la ca lb cb f g h h' l1 l2 gf gg;have hc2:=fun(W:World) h h'=>IC W b a lb cb la ca g f h h' l2 l1 gg gf
   have HPA:=aA hpa;have HPB:=aA hpb
   unfold cK;rw[m1,m2];cases hX:dY f g lb la with
   |none=>
    rw[hX]at hc1;rw[if_neg (by simp[fZ])];go_enter Tryz.func71,Tryz.ntmps71
    go_wp2_with (first
     |(go_at_call_of 29 (Value.slice a la ca);refine(aY _ _ _ _ f HA.out).mono ?_;rw[hpa];rintro r w1 ⟨rfl,hb1⟩;have HB1:=aA hb1;clear hb1)
     |(go_at_call_of 29 (Value.slice b lb cb);refine(aY _ _ _ _ g (HB.out.below HB1.out)).mono ?_;rw[hpb];rintro r w2 ⟨rfl,hb2⟩;have HB2:=aA (aC HB1.out hb2);clear hb2))
    refine(hc1 _ (HA.out.below HB2.out) (HB.out.below HB2.out)).mono ?_;dsimp only[fZ];rintro r w3 ⟨v3,rfl,hb3,ho3⟩;have HB3:=aA (aC HB2.out hb3)
    clear hb3 ho3;go_wp2_with fail;refine(hc2 _ (HB.out.below HB3.out) (HA.out.below HB3.out)).mono ?_;rintro r w4 ⟨v4,rfl,hb4,ho4⟩;have HB4:=aA (aC HB3.out hb4)
    clear hb4 ho4;go_wp2;refine bC (results_tmp2 rfl _ _ _) rfl ?_;exact⟨_,rfl,HB4.out.alloc HB4.out.size _,aQ w4 w.heap.size HB4.out.size⟩
   |some X=>
    rw[hX]at hc1;cases hY:dY g f la lb with
    |none=>
     rw[hY]at hc2;rw[if_neg (by simp[fZ])];go_enter Tryz.func71,Tryz.ntmps71
     go_wp2_with (first
      |(go_at_call_of 29 (Value.slice a la ca);refine(aY _ _ _ _ f HA.out).mono ?_;rw[hpa];rintro r w1 ⟨rfl,hb1⟩;have HB1:=aA hb1;clear hb1)
      |(go_at_call_of 29 (Value.slice b lb cb);refine(aY _ _ _ _ g (HB.out.below HB1.out)).mono ?_;rw[hpb];rintro r w2 ⟨rfl,hb2⟩;have HB2:=aA (aC HB1.out hb2);clear hb2))
     refine(hc1 _ (HA.out.below HB2.out) (HB.out.below HB2.out)).mono ?_;dsimp only[fZ];rintro r w3 ⟨v3,rfl,hb3,ho3⟩;have HB3:=aA (aC HB2.out hb3)
     clear hb3 ho3;go_wp2_with fail;refine(hc2 _ (HB.out.below HB3.out) (HA.out.below HB3.out)).mono ?_;dsimp only[fZ];rintro r w4 ⟨v4,rfl,hb4,ho4⟩;have HB4:=aA (aC HB3.out hb4)
     clear hb4 ho4;go_wp2;refine bC (results_tmp2 rfl _ _ _) rfl ?_;exact⟨_,rfl,HB4.out.alloc HB4.out.size _,aQ w4 w.heap.size HB4.out.size⟩
    |some Y=>
     rw[hY]at hc2;rw[if_pos (by simp[fZ])];show Calls Tryz.prog 71 #[.slice a la ca,.slice b lb cb] w fun r w'=>∃v,r= .returned (.tuple #[v,.bool (gI (lf X) X.length (lf Y) Y.length).2])∧Below w.heap.size w w'∧w'.ownsRow w.heap.size 79 5 v (gI (lf X) X.length (lf Y) Y.length).1.length (aG (gI (lf X) X.length (lf Y) Y.length).1)
     rw[FH HPA.out HPB.out hX hY];have fX:=iW gf gg la X (Nat.le_refl _) hX
     have fY:=iW gg gf lb Y (Nat.le_refl _) hY;have lX:=iX la X hX
     have lY:=iX lb Y hY;have nF:=IE (xW fY)
     have hal:=lC (lf X) X.length (lL (lf Y) Y.length) Y.length 0 0;simp only[Nat.sub_zero]at hal;have key:∀(W:World) (v:Value),Below w.heap.size w W→True:=fun _ _ _=>trivial
     go_enter Tryz.func71,Tryz.ntmps71
     go_wp2_with (first
      |(go_at_call_of 29 (Value.slice a la ca);refine(aY _ _ _ _ f HA.out).mono ?_;rw[hpa];rintro r w1 ⟨rfl,hb1⟩;have HB1:=aA hb1;clear hb1)
      |(go_at_call_of 29 (Value.slice b lb cb);refine(aY _ _ _ _ g (HB.out.below HB1.out)).mono ?_;rw[hpb];rintro r w2 ⟨rfl,hb2⟩;have HB2:=aA (aC HB1.out hb2);clear hb2))
     refine(hc1 _ (HA.out.below HB2.out) (HB.out.below HB2.out)).mono ?_;dsimp only[fZ];rintro r w3 ⟨v3,rfl,hb3,ho3⟩;obtain⟨a3,c3,rfl,hout3⟩:=aO ho3 (by omega);have HB3:=aA (aC HB2.out hb3)
     have HX3:=aA hout3.1;clear hb3 ho3 hout3;go_wp2_with fail;refine(hc2 _ (HB.out.below HB3.out) (HA.out.below HB3.out)).mono ?_;dsimp only[fZ];rintro r w4 ⟨v4,rfl,hb4,ho4⟩;obtain⟨a4,c4,rfl,hout4⟩:=aO ho4 (by omega);have HB4:=aA (aC HB3.out hb4)
     have HX4:=aA (HX3.out.below hb4);have HY4:=aA hout4.1
     clear hb4 ho4 hout4;go_wp2_with fail;have hsc:=GK w4 100 a4 Y.length c4 (lf Y) HY4.out (by omega) (by omega) (by omega) ((dJ fY).at)
     rw[if_neg (by omega)]at hsc;refine hsc.mono ?_;rintro r w5 ⟨v5,rfl,hb5,ho5⟩;have eS:(CH 100 (lf Y) Y.length).length=Y.length:=NC _ _ _
     have ho5':w5.ownsRow w4.heap.size 79 5 v5 (CH 100 (lf Y) Y.length).length (aG (CH 100 (lf Y) Y.length)):=by rw[eS];exact ho5
     obtain⟨a5,c5,rfl,hout5⟩:=aO ho5' (by omega);have hR5:Rd w5 a5 Y.length c5 (lL (lf Y) Y.length):=by have:=hout5.1;rw[eS]at this;exact this
     have HB5:=aA (aC HB4.out hb5);have HX5:=aA (HX4.out.below hb5)
     have HY5:=aA hR5;clear hb5 ho5 ho5' hout5 hR5;rw[eS];have hadd:=oS w5 a3 a5 X.length c3 Y.length c5 (lf X) (lL (lf Y) Y.length) HX5.out HY5.out (by omega) ((dJ fX).at) (fun i hi=>by have:=nF.2 i hi;omega)
     generalize hL:cV (lf X) X.length (lL (lf Y) Y.length) Y.length 0 0=L at *;by_cases h4:L.length≤400
     ·have h4':(L.length:Int)≤400:=by omega
      go_wp2_with (go_at_call 100;refine hadd.mono ?_;rintro r w6 ⟨v6,rfl,hb6,ho6⟩;obtain⟨a6,c6,rfl,hout6⟩:=aO ho6 (by omega));all_goals(refine bC (results_tmp2 rfl _ _ _) rfl ?_)
      all_goals exact⟨_,rfl,aC HB5.out hb6,dS ho6 HB5.out.size⟩
     ·have h4':(400:Int)<(L.length:Int):=by omega
      go_wp2_with (go_at_call 100;refine hadd.mono ?_;rintro r w6 ⟨v6,rfl,hb6,ho6⟩;obtain⟨a6,c6,rfl,hout6⟩:=aO ho6 (by omega));all_goals(refine bC (results_tmp2 rfl _ _ _) rfl ?_)
      all_goals(have hB6:=aC HB5.out hb6)
      all_goals exact⟨_,rfl,hB6.alloc hB6.size _,aQ w6 w.heap.size hB6.size⟩
open Go.RowKit Go.Maps
def EY (g:Nat) (lb:Array Value) (st:List T→T→Option (List T)) (Q:World→Prop):Prop:=
 ∀(W:World) (b:Nat) (c:M→Int) (K:List T) (t:T),eP W b 65536 c→aX K→(∀m,m.ok=true→bN K m=c m)→K.length≤400→(t.m.ok=true∧1≤t.c∧t.c≤100)→Q W→
  Calls Tryz.prog g (#[.map (some b),.agg #[.int .i64 t.c,.int .i64 t.m.x,.int .i64 t.m.y,.int .i64 t.m.d,.int .i64 t.m.e]]++lb) W fun e w'=>W.grownBy w' (some b)∧
   ((∃K' c',st K t=some K'∧e= .returned (.bool true)∧eP w' b 65536 c'∧aX K'∧∀m,m.ok=true→bN K' m=c' m)∨(st K t=none∧e= .returned (.bool false)))
def oU (K:List T):Option (List T):=if K.length≤400 then some K else none
def dF (st:List T→T→Option (List T)) (f:Nat→T):Nat→Option (List T)
 |0=>some []
 |i+1=>(dF st f i).bind fun K=>(st K (f i)).bind oU
theorem kF {st:List T→T→Option (List T)} {f:Nat→T} {i:Nat} (h:dF st f i=none):∀j,i≤j→dF st f j=none:=fun j hj=>by
 induction j with
 |zero=>
  have e:i=0:=by omega
  rw[e]at h;exact h
 |succ j ih=>
  by_cases e:i=j+1
  ·rw[←e];exact h
  ·rw[dF,ih (by omega)];rfl
theorem jL {st:List T→T→Option (List T)} {f:Nat→T}:∀i K,dF st f i=some K→K.length≤400
 |0,K,h=>by cases h;exact gO _
 |i+1,K,h=>by
  rw[dF]at h;cases hr:dF st f i with
  |none=>rw[hr]at h;cases h
  |some K1=>
   rw[hr]at h;change (st K1 (f i)).bind oU=some K at h;cases hs:st K1 (f i)with
   |none=>rw[hs]at h;cases h
   |some K2=>
    rw[hs]at h;change oU K2=some K at h;unfold oU at h;split at h
    ·cases h;assumption
    ·cases h
def mO (st:List T→T→Option (List T)) (f:Nat→T) (la:Nat):List T×Bool:=if aH la f=true then fZ (dF st f la)else([],false)
theorem yF (st:List T→T→Option (List T)) (f:Nat→T) (la:Nat):(mO st f la).1.length≤400:=by
 unfold mO;split
 ·cases h:dF st f la with
  |none=>simp[fZ]
  |some K=>exact jL la K h
 ·simp
theorem yE (w:World) (a:Option Addr) (la ca:Nat) (f:Nat→T) (g:Nat) (lb:Array Value) (st:List T→T→Option (List T)) (Q:World→Prop) (eg:∀args w,(callFunc g args).run Tryz.prog w= .ok (.enter g args) w) (hT:EY g lb st Q) (hQ:∀W W' b,Q W→w.heap.size≤b→W.grownBy W' (some b)→Q W') (hQb:∀W',Q w→Below w.heap.size w W'→Q W') (hq:Q w) (ha:Rd w a la ca f):Calls Tryz.prog 118 #[.slice a la ca,.func (.func g) #[] lb] w fun r w'=>∃v,r= .returned (.tuple #[v,.bool (mO st f la).2])∧Below w.heap.size w w'∧w'.ownsRow w.heap.size 79 5 v (mO st f la).1.length (aG (mO st f la).1):=by
 have HA:=aA ha;have HT:=aA hT
 have HQ:=aA hQ;have HQB:=aA hQb
 have hla:(la:Int)≤140737488351232:=by have:=ha.2.1;omega
 clear ha hT hQ hQb;cases hpa:aH la f
 ·have e1:mO st f la=([],false):=by simp[mO,hpa]
  rw[e1];go_enter Tryz.func118,Tryz.ntmps118;go_wp2_with (go_at_call 57;refine(dU _ _ _ _ f HA.out).mono ?_;rw[hpa];rintro r w1 ⟨rfl,hb1⟩;have HB1:=aA hb1;clear hb1);refine bC (results_tmp2 rfl _ _ _) rfl ?_;exact⟨_,rfl,HB1.out,dD w1 _⟩
 ·have e2:mO st f la=fZ (dF st f la):=by simp[mO,hpa]
  rw[e2];clear e2;have l1:la≤400:=by have h:=hpa;simp only[aH,decide_eq_true_eq]at h;exact h.1
  have HPA:=aA hpa;have hmm:=@run_makeMap Tryz.prog
  go_enter Tryz.func118,Tryz.ntmps118;go_wp2_with (go_at_call 57;refine(dU _ _ _ _ f HA.out).mono ?_;rw[hpa];rintro r w2 ⟨rfl,hb2⟩;have HB2:=aA hb2;clear hb2);clear hpa;have HRA:=aA (HA.out.below HB2.out)
  have HNA:=aA (HRA.out.apart (Nat.le_refl _));have hlo:w.heap.size≤w2.heap.size:=HB2.out.size
  have HS0:=aA ((wG w2).cap);have HG0:=aA (World.grownBy_alloc w2 (.map #[] 0) (some w2.heap.size))
  have HQ0:=aA (HQ.out _ _ _ (HQB.out w2 hq HB2.out) hlo HG0.out);generalize hw3:w2.alloc (.map #[] 0)=w3 at *;clear hw3 hmm;go_loopw [15] (fun v wr=>∃(i:Nat) (K:List T) (c:M→Int),i≤la∧v= .int .i64 (i:Int)∧dF st f i=some K∧aX K∧(∀m,m.ok=true→bN K m=c m)∧eP wr w2.heap.size 65536 c∧w2.grownBy wr (some w2.heap.size)∧Q wr) (fun v _=>la-(intOf v).toNat);case atStart=>exact⟨0,[],fun _=>0,gO _,rfl,rfl,dN,fun _ _=>rfl,HS0.out,HG0.out,HQ0.out⟩
  case round=>
   obtain⟨i,K,c,hi,rfl,hM,hKf,hKc,hS,hg,hqr⟩:=hrel;by_cases hlt:i<la
   ·have hil:(i:Int)<(la:Int):=by omega
    have hri:=HRA.out.grown hg HNA.out;rcases hri.2.2 with h0|⟨pb,off,hpe,hblt,hcl⟩
    ·omega
    obtain⟨g0,g1,g2,g3,g4⟩:=hcl i hlt;have hfi:=(cG HPA.out).2 i hlt
    have hKl:=jL i K hM;have hg1:=World.grownBy_alloc wr (.cells #[.int .i64 (f i).c,.int .i64 (f i).m.x,.int .i64 (f i).m.y,.int .i64 (f i).m.d,.int .i64 (f i).m.e] 79) (some w2.heap.size)
    have hcall:=HT.out (wr.alloc (.cells #[.int .i64 (f i).c,.int .i64 (f i).m.x,.int .i64 (f i).m.y,.int .i64 (f i).m.d,.int .i64 (f i).m.e] 79)) w2.heap.size c K (f i) (hS.grown (World.grownBy_alloc wr (.cells #[.int .i64 (f i).c,.int .i64 (f i).m.x,.int .i64 (f i).m.y,.int .i64 (f i).m.d,.int .i64 (f i).m.e] 79) none) (by simp)) hKf hKc hKl hfi (HQ.out _ _ _ hqr hlo hg1);have HC:=aA hcall
    have HS:=aA hS;have HG:=aA (hg.trans hg1)
    have HM:=aA hM;have HQR:=aA (HQ.out _ _ _ hqr hlo hg1)
    clear hcl hri hS hg hM hg1 hcall hqr;subst hpe;go_wp2_with fail;refine HC.out.mono ?_;rintro r w4 ⟨hg4,(⟨K',c',hst,rfl,hs4,hf4,hc4⟩|⟨hst,rfl⟩)⟩
    ·have HS4:=aA hs4;have HG4:=aA (HG.out.trans hg4)
     have HQ4:=aA (HQ.out _ _ _ HQR.out hlo hg4);obtain⟨D,ho,hcr,hat,hks⟩:=hs4;have hsz:=wC ho hat hks hf4 hc4
     have hlen:=ho.len Tryz.underlying120 3;rw[hsz]at hlen;clear ho hat hks hcr hg4 hsz;by_cases h4:K'.length≤400
     ·have h4':(K'.length:Int)≤400:=by omega
      have HST:Hid (dF st f (i+1)=some K'):=by
       show _=_;rw[dF,HM.out];show(st K (f i)).bind oU=_
       rw[hst];show oU K'=_
       exact if_pos h4
      go_wp2;go_roundw;case rel=>exact⟨i+1,K',c',by omega,by go_num,HST.out,hf4,hc4,HS4.out,HG4.out,HQ4.out⟩
      case measure=>simp[intOf];omega
     ·have h4':(400:Int)<(K'.length:Int):=by omega
      have hno:dF st f la=none:=kF (i:=i+1) (by
       rw[dF,HM.out];show(st K (f i)).bind oU=_
       rw[hst];show oU K'=_
       exact if_neg h4) la (by omega)
      go_wp2;refine bC (results_tmp2 rfl _ _ _) rfl ?_;rw[hno];exact⟨_,rfl,HB2.out.grown HG4.out hlo (fun k' e=>by cases e;exact hlo),dD w4 _⟩
    ·have hno:dF st f la=none:=kF (i:=i+1) (by
      rw[dF,HM.out];show(st K (f i)).bind oU=_
      rw[hst]
      rfl) la (by omega)
     have HG4:=aA (HG.out.trans hg4);clear hg4;go_wp2;refine bC (results_tmp2 rfl _ _ _) rfl ?_;rw[hno];exact⟨_,rfl,HB2.out.grown HG4.out hlo (fun k' e=>by cases e;exact hlo),dD w4 _⟩
   ·obtain rfl:i=la:=by omega
    have hKl:=jL _ _ hM;have e3:fZ (dF st f i)=iA K:=by rw[hM];simp[fZ,iA,hKl]
    go_wp2_with (go_at_call 112;refine(wH _ _ _ _ hS (by omega) hKf hKc).mono ?_;rintro r w5 ⟨v,rfl,hb5,ho5⟩);refine bC (results_tmp2 rfl _ _ _) rfl ?_;rw[e3];have hB4:Below w.heap.size w wr:=HB2.out.grown hg hlo (fun k' e=>by cases e;exact hlo)
    exact⟨_,rfl,hB4.trans (hb5.mono hB4.size),dS ho5 hB4.size⟩
end Go.Proofs.YtkcmamepoplcdaaGreatDoor
