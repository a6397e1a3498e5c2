/-
  How far two operators are from commuting: the program and the model.
-/
import Derived.Test.YtoglomfejgpoeaaGreatDoorMap
set_option maxHeartbeats 4000000
set_option maxRecDepth 100000
namespace Go.Proofs.YtoglomfejgpoeaaGreatDoor
open Go.RowKit
set_option linter.unusedVariables false
def bH (f:Nat→T) (la:Nat) (g:Nat→T) (lb:Nat):List T×Bool:=
 if(aX f la g lb).2=true∧(aX g lb f la).2=true then eC (lf (aX f la g lb).1) (aX f la g lb).1.length (lf (aX g lb f la).1) (aX g lb f la).1.length else([],false)
theorem sH (f:Nat→T) (la:Nat) (g:Nat→T) (lb:Nat):(bH f la g lb).1.length≤400:=by
 unfold bH;split
 ·exact kR _ _ _ _
 ·simp
theorem qT (w:World) (a b:Option Addr) (la ca lb cb:Nat) (f g:Nat→T) (ha:Rd w a la ca f) (hb:Rd w b lb cb g):Calls Tryz.prog 40 #[.slice a la ca,.slice b lb cb] w fun r w'=>∃a' cap',r= .returned (.tuple #[.slice a' (bH f la g lb).1.length cap',.bool (bH f la g lb).2])∧Below w.heap.size w w'∧mB w.heap.size w' a' cap' (bH f la g lb).1:=by
 have HA:=aA ha;have HB:=aA hb
 have hc1:=nP w a b la ca lb cb f g ha hb;have hc2:=fun(w1:World) (h1:Rd w1 b lb cb g) (h2:Rd w1 a la ca f)=>nP w1 b a lb cb la ca g f h1 h2
 have hla:(la:Int)≤140737488351232:=by have:=ha.2.1;omega
 have hlb:(lb:Int)≤140737488351232:=by have:=hb.2.1;omega
 have hl1:=jA f la g lb;have hl2:=jA g lb f la
 clear ha hb;unfold bH;generalize aX f la g lb=p at *;generalize aX g lb f la=q at *;obtain⟨X,k1⟩:=p;obtain⟨Y,k2⟩:=q;dsimp only at hc1 hc2 hl1 hl2⊢;have hnil:∀(W:World),mB w.heap.size W none 0 ([]:List T):=fun W=>⟨⟨Nat.le_refl _,by simp,.inl rfl⟩,.inl rfl,.inl rfl⟩
 cases k1
 ·rw[if_neg (by simp)];go_enter Tryz.func40,Tryz.ntmps40;go_wp2_with fail;refine hc1.mono ?_;rintro r w1 ⟨a1,c1,rfl,hb1,ho1⟩;have HB1:=aA hb1
  clear hb1 ho1;go_wp2_with fail;refine(hc2 w1 (HB.out.below HB1.out) (HA.out.below HB1.out)).mono ?_;rintro r w2 ⟨a2,c2,rfl,hb2,ho2⟩;have HB2:=aA (aC HB1.out hb2)
  clear hb2 ho2;go_wp2;refine bT (results_tmp2 rfl _ _ _) rfl ?_;exact⟨none,0,rfl,HB2.out,hnil w2⟩
 ·cases k2
  ·rw[if_neg (by simp)];go_enter Tryz.func40,Tryz.ntmps40;go_wp2_with fail;refine hc1.mono ?_;rintro r w1 ⟨a1,c1,rfl,hb1,ho1⟩;have HB1:=aA hb1
   clear hb1 ho1;go_wp2_with fail;refine(hc2 w1 (HB.out.below HB1.out) (HA.out.below HB1.out)).mono ?_;rintro r w2 ⟨a2,c2,rfl,hb2,ho2⟩;have HB2:=aA (aC HB1.out hb2)
   clear hb2 ho2;go_wp2;refine bT (results_tmp2 rfl _ _ _) rfl ?_;exact⟨none,0,rfl,HB2.out,hnil w2⟩
  ·rw[if_pos ⟨rfl,rfl⟩];go_enter Tryz.func40,Tryz.ntmps40;go_wp2_with fail;refine hc1.mono ?_;rintro r w1 ⟨a1,c1,rfl,hb1,ho1⟩;have HB1:=aA hb1
   have HO1:=aA ho1;clear hb1 ho1;go_wp2_with fail;refine(hc2 w1 (HB.out.below HB1.out) (HA.out.below HB1.out)).mono ?_;rintro r w2 ⟨a2,c2,rfl,hb2,ho2⟩;have HB2:=aA (aC HB1.out hb2)
   have HR1:=aA (HO1.out.1.below hb2);have HR2:=aA ho2.1
   clear hb2 ho2;go_wp2_with (go_at_call 81;refine(EE _ _ _ _ _ _ _ (lf X) (lf Y) HR1.out HR2.out).mono ?_;rintro r w3 ⟨a3,c3,rfl,hb3,ho3⟩);refine bT (results_tmp2 rfl _ _ _) rfl ?_;refine⟨a3,c3,rfl,aC HB2.out hb3,ho3.1,ho3.2.1,ho3.2.2.imp id ?_⟩;rintro⟨g',off,e,hg⟩;exact⟨g',off,e,gU HB2.out.size hg⟩
theorem zB {f g:Nat→T} {la lb:Nat} (h1:aN la f=true) (h2:aN lb g=true) {X Y:List T} (hX:dD f g lb la=some X) (hY:dD g f la lb=some Y):eC (lf X) X.length (lf Y) Y.length=if(cT (lf X) X.length (jS (lf Y) Y.length) Y.length 0 0).length≤400 then(cT (lf X) X.length (jS (lf Y) Y.length) Y.length 0 0,true)else([],false):=by
 have fX:=gT (fN h1).2 (fN h2).2 la X (Nat.le_refl _) hX;have fY:=gT (fN h2).2 (fN h1).2 lb Y (Nat.le_refl _) hY
 simp[eC,tQ fX (fT la X hX),tQ fY (fT lb Y hY)]
theorem yN (w:World) (a b:Option Addr) (la ca lb cb:Nat) (f g:Nat→T) (ha:Rd w a la ca f) (hb:Rd w b lb cb g):Calls Tryz.prog 55 #[.slice a la ca,.slice b lb cb] w fun r w'=>∃v,r= .returned (.tuple #[v,.bool (bH f la g lb).2])∧Below w.heap.size w w'∧w'.ownsRow w.heap.size 80 5 v (bH f la g lb).1.length (aF (bH f la g lb).1):=by
 have HA:=aA ha;have HB:=aA hb
 clear ha hb;cases hpa:aN la f
 ·have e1:bH f la g lb=([],false):=by simp[bH,aX,hpa]
  rw[e1];go_enter Tryz.func55,Tryz.ntmps55;go_wp2_with (go_at_call 74;refine(bD _ _ _ _ f HA.out).mono ?_;rw[hpa];rintro r w1 ⟨rfl,hb1⟩;have HB1:=aA hb1;clear hb1);refine bT (results_tmp2 rfl _ _ _) rfl ?_;exact⟨_,rfl,HB1.out.alloc HB1.out.size _,aQ w1 w.heap.size HB1.out.size⟩
 ·cases hpb:aN lb g
  ·have e1:bH f la g lb=([],false):=by simp[bH,aX,hpb]
   rw[e1];go_enter Tryz.func55,Tryz.ntmps55
   go_wp2_with (first
    |(go_at_call_of 74 (Value.slice a la ca);refine(bD _ _ _ _ f HA.out).mono ?_;rw[hpa];rintro r w1 ⟨rfl,hb1⟩;have HB1:=aA hb1;clear hb1)
    |(go_at_call_of 74 (Value.slice b lb cb);refine(bD _ _ _ _ g (HB.out.below HB1.out)).mono ?_;rw[hpb];rintro r w2 ⟨rfl,hb2⟩;have HB2:=aA (aC HB1.out hb2);clear hb2))
   refine bT (results_tmp2 rfl _ _ _) rfl ?_;exact⟨_,rfl,HB2.out.alloc HB2.out.size _,aQ w2 w.heap.size HB2.out.size⟩
  ·obtain⟨l1,gf⟩:=fN hpa;obtain⟨l2,gg⟩:=fN hpb;have m1:aX f la g lb=eH (dD f g lb la):=by simp[aX,hpa,hpb]
   have m2:aX g lb f la=eH (dD g f la lb):=by simp[aX,hpa,hpb]
   have hc1:=fun(W:World) h h'=>AR W a b la ca lb cb f g h h' l1 l2 gf gg;have hc2:=fun(W:World) h h'=>AR W b a lb cb la ca g f h h' l2 l1 gg gf
   have HPA:=aA hpa;have HPB:=aA hpb
   unfold bH;rw[m1,m2];cases hX:dD f g lb la with
   |none=>
    rw[hX]at hc1;rw[if_neg (by simp[eH])];go_enter Tryz.func55,Tryz.ntmps55
    go_wp2_with (first
     |(go_at_call_of 74 (Value.slice a la ca);refine(bD _ _ _ _ f HA.out).mono ?_;rw[hpa];rintro r w1 ⟨rfl,hb1⟩;have HB1:=aA hb1;clear hb1)
     |(go_at_call_of 74 (Value.slice b lb cb);refine(bD _ _ _ _ g (HB.out.below HB1.out)).mono ?_;rw[hpb];rintro r w2 ⟨rfl,hb2⟩;have HB2:=aA (aC HB1.out hb2);clear hb2))
    refine(hc1 _ (HA.out.below HB2.out) (HB.out.below HB2.out)).mono ?_;dsimp only[eH];rintro r w3 ⟨v3,rfl,hb3,ho3⟩;have HB3:=aA (aC HB2.out hb3)
    clear hb3 ho3;go_wp2_with fail;refine(hc2 _ (HB.out.below HB3.out) (HA.out.below HB3.out)).mono ?_;rintro r w4 ⟨v4,rfl,hb4,ho4⟩;have HB4:=aA (aC HB3.out hb4)
    clear hb4 ho4;go_wp2;refine bT (results_tmp2 rfl _ _ _) rfl ?_;exact⟨_,rfl,HB4.out.alloc HB4.out.size _,aQ w4 w.heap.size HB4.out.size⟩
   |some X=>
    rw[hX]at hc1;cases hY:dD g f la lb with
    |none=>
     rw[hY]at hc2;rw[if_neg (by simp[eH])];go_enter Tryz.func55,Tryz.ntmps55
     go_wp2_with (first
      |(go_at_call_of 74 (Value.slice a la ca);refine(bD _ _ _ _ f HA.out).mono ?_;rw[hpa];rintro r w1 ⟨rfl,hb1⟩;have HB1:=aA hb1;clear hb1)
      |(go_at_call_of 74 (Value.slice b lb cb);refine(bD _ _ _ _ g (HB.out.below HB1.out)).mono ?_;rw[hpb];rintro r w2 ⟨rfl,hb2⟩;have HB2:=aA (aC HB1.out hb2);clear hb2))
     refine(hc1 _ (HA.out.below HB2.out) (HB.out.below HB2.out)).mono ?_;dsimp only[eH];rintro r w3 ⟨v3,rfl,hb3,ho3⟩;have HB3:=aA (aC HB2.out hb3)
     clear hb3 ho3;go_wp2_with fail;refine(hc2 _ (HB.out.below HB3.out) (HA.out.below HB3.out)).mono ?_;dsimp only[eH];rintro r w4 ⟨v4,rfl,hb4,ho4⟩;have HB4:=aA (aC HB3.out hb4)
     clear hb4 ho4;go_wp2;refine bT (results_tmp2 rfl _ _ _) rfl ?_;exact⟨_,rfl,HB4.out.alloc HB4.out.size _,aQ w4 w.heap.size HB4.out.size⟩
    |some Y=>
     rw[hY]at hc2;rw[if_pos (by simp[eH])];show Calls Tryz.prog 55 #[.slice a la ca,.slice b lb cb] w fun r w'=>∃v,r= .returned (.tuple #[v,.bool (eC (lf X) X.length (lf Y) Y.length).2])∧Below w.heap.size w w'∧w'.ownsRow w.heap.size 80 5 v (eC (lf X) X.length (lf Y) Y.length).1.length (aF (eC (lf X) X.length (lf Y) Y.length).1)
     rw[zB HPA.out HPB.out hX hY];have fX:=gT gf gg la X (Nat.le_refl _) hX
     have fY:=gT gg gf lb Y (Nat.le_refl _) hY;have lX:=fT la X hX
     have lY:=fT lb Y hY;have nF:=AW (tE fY)
     have hal:=jK (lf X) X.length (jS (lf Y) Y.length) Y.length 0 0;simp only[Nat.sub_zero]at hal;have key:∀(W:World) (v:Value),Below w.heap.size w W→True:=fun _ _ _=>trivial
     go_enter Tryz.func55,Tryz.ntmps55
     go_wp2_with (first
      |(go_at_call_of 74 (Value.slice a la ca);refine(bD _ _ _ _ f HA.out).mono ?_;rw[hpa];rintro r w1 ⟨rfl,hb1⟩;have HB1:=aA hb1;clear hb1)
      |(go_at_call_of 74 (Value.slice b lb cb);refine(bD _ _ _ _ g (HB.out.below HB1.out)).mono ?_;rw[hpb];rintro r w2 ⟨rfl,hb2⟩;have HB2:=aA (aC HB1.out hb2);clear hb2))
     refine(hc1 _ (HA.out.below HB2.out) (HB.out.below HB2.out)).mono ?_;dsimp only[eH];rintro r w3 ⟨v3,rfl,hb3,ho3⟩;obtain⟨a3,c3,rfl,hout3⟩:=aM ho3 (by omega);have HB3:=aA (aC HB2.out hb3)
     have HX3:=aA hout3.1;clear hb3 ho3 hout3;go_wp2_with fail;refine(hc2 _ (HB.out.below HB3.out) (HA.out.below HB3.out)).mono ?_;dsimp only[eH];rintro r w4 ⟨v4,rfl,hb4,ho4⟩;obtain⟨a4,c4,rfl,hout4⟩:=aM ho4 (by omega);have HB4:=aA (aC HB3.out hb4)
     have HX4:=aA (HX3.out.below hb4);have HY4:=aA hout4.1
     clear hb4 ho4 hout4;go_wp2_with fail;have hsc:=AF w4 100 a4 Y.length c4 (lf Y) HY4.out (by omega) (by omega) (by omega) ((dE fY).at)
     rw[if_neg (by omega)]at hsc;refine hsc.mono ?_;rintro r w5 ⟨v5,rfl,hb5,ho5⟩;have eS:(wS 100 (lf Y) Y.length).length=Y.length:=EG _ _ _
     have ho5':w5.ownsRow w4.heap.size 80 5 v5 (wS 100 (lf Y) Y.length).length (aF (wS 100 (lf Y) Y.length)):=by rw[eS];exact ho5
     obtain⟨a5,c5,rfl,hout5⟩:=aM ho5' (by omega);have hR5:Rd w5 a5 Y.length c5 (jS (lf Y) Y.length):=by have:=hout5.1;rw[eS]at this;exact this
     have HB5:=aA (aC HB4.out hb5);have HX5:=aA (HX4.out.below hb5)
     have HY5:=aA hR5;clear hb5 ho5 ho5' hout5 hR5;rw[eS];have hadd:=mH w5 a3 a5 X.length c3 Y.length c5 (lf X) (jS (lf Y) Y.length) HX5.out HY5.out (by omega) ((dE fX).at) (fun i hi=>by have:=nF.2 i hi;omega)
     generalize hL:cT (lf X) X.length (jS (lf Y) Y.length) Y.length 0 0=L at *;by_cases h4:L.length≤400
     ·have h4':(L.length:Int)≤400:=by omega
      go_wp2_with (go_at_call 97;refine hadd.mono ?_;rintro r w6 ⟨v6,rfl,hb6,ho6⟩;obtain⟨a6,c6,rfl,hout6⟩:=aM ho6 (by omega));all_goals(refine bT (results_tmp2 rfl _ _ _) rfl ?_)
      all_goals exact⟨_,rfl,aC HB5.out hb6,dJ ho6 HB5.out.size⟩
     ·have h4':(400:Int)<(L.length:Int):=by omega
      go_wp2_with (go_at_call 97;refine hadd.mono ?_;rintro r w6 ⟨v6,rfl,hb6,ho6⟩;obtain⟨a6,c6,rfl,hout6⟩:=aM ho6 (by omega));all_goals(refine bT (results_tmp2 rfl _ _ _) rfl ?_)
      all_goals(have hB6:=aC HB5.out hb6)
      all_goals exact⟨_,rfl,hB6.alloc hB6.size _,aQ w6 w.heap.size hB6.size⟩
def qY (a b:T):T:=⟨gE (gE a.c b.c) (gE (cR b.m.x a.m.d) (cR b.m.y a.m.e)),⟨b.m.x-a.m.d+a.m.x,b.m.y-a.m.e+a.m.y,0,0⟩⟩
abbrev DT:Type:={t:T // 0≤t.c∧t.c≤100∧t.m.d=0∧t.m.e=0}
def FW (x:DT):Array Value:=#[.agg #[.int .i64 x.1.c,.int .i64 x.1.m.x,.int .i64 x.1.m.y,.int .i64 x.1.m.d,.int .i64 x.1.m.e]]
def DF (a b:T):DT:=⟨qY a b,(fD _ _).1,(fD _ _).2,rfl,rfl⟩
def EV (a b:T):List DT:=if b.m.x<a.m.d∨b.m.y<a.m.e then[]else[DF a b]
def bR (a:T) (g:Nat→T):Nat→List DT
 |0=>[]
 |k+1=>bR a g k++EV a (g k)
def bE (f g:Nat→T) (lb:Nat):Nat→List DT
 |0=>[]
 |i+1=>bE f g lb i++bR (f i) g lb
theorem DG (a b:T):(EV a b).length≤1:=by unfold EV;split<;>simp
theorem mL (a:T) (g:Nat→T):∀k,(bR a g k).length≤k
 |0=>Nat.le_refl _
 |k+1=>by have h1:=mL a g k;have h2:=DG a (g k);rw[bR,List.length_append];omega
theorem pJ (f g:Nat→T) (lb:Nat):∀i,(bE f g lb i).length≤i*lb
 |0=>gC _
 |i+1=>by have h1:=pJ f g lb i;have h2:=mL (f i) g lb;rw[bE,List.length_append,Nat.succ_mul];omega
theorem qM        (a : T) (g : Nat → T) {k : Nat} : ∀ {j : Nat}, k ≤ j → bR    a g k <+: bR    a g j
  | 0, h => by obtain rfl : k = 0 := by omega
               exact List.prefix_refl _
  | j + 1, h => by
    by_cases e : k = j + 1
    · rw [e]
      exact List.prefix_refl _
    · exact (qM        a g (j := j) (by omega)).trans (List.prefix_append _ _)
theorem pK        (f g : Nat → T) (lb : Nat) {k : Nat} : ∀ {j : Nat}, k ≤ j → bE    f g lb k <+: bE    f g lb j
  | 0, h => by obtain rfl : k = 0 := by omega
               exact List.prefix_refl _
  | j + 1, h => by
    by_cases e : k = j + 1
    · rw [e]
      exact List.prefix_refl _
    · exact (pK        f g lb (j := j) (by omega)).trans (List.prefix_append _ _)
theorem qN (f g:Nat→T) (lb la:Nat) {i k:Nat} (hi:i<la) (hk:k≤lb):bE f g lb i++bR (f i) g k<+:bE f g lb la:=by refine List.IsPrefix.trans ?_ (pK f g lb (k:=i+1) (j:=la) (by omega));rw[bE];exact(List.prefix_append_right_inj _).2 (qM _ _ hk)
def dT (L:List DT):Bool:=L.all (fun t=>t.1.m.ok)
theorem eY (L R:List DT):dT (L++R)=(dT L&&dT R):=by simp[dT]
theorem pL {L R:List DT} (h:L<+:R) (hL:dT L=false):dT R=false:=by obtain⟨X,rfl⟩:=h;rw[eY,hL];rfl
def dH (f:Nat→T) (la:Nat) (g:Nat→T) (lb:Nat):List T×Bool:=if aN la f=true∧cA lb g=true then(if dT (bE f g lb la)=true then(cE ((bE f g lb la).map (·.1)) [],true)else([],false))else([],false)
theorem sC {L:List DT} (h:dT L=true):IG (L.map (·.1)):=by
 intro t ht;obtain⟨x,hx,rfl⟩:=List.mem_map.1 ht;have hx2:=x.2
 exact⟨(List.all_eq_true.1 h) x hx,hx2.1,hx2.2.1⟩
theorem kF (m:M):∀(xs:List T) (c:M→Int),(∀t∈xs,t.m≠m)→dL c xs m=c m
 |[],c,_=>rfl
 |t::r,c,h=>by show dL (gV c t.m t.c) r m=_;rw[kF m r _ (fun s hs=>h s (List.mem_cons_of_mem _ hs)),kU (fun e=>h t (List.mem_cons_self ..) e.symm)]
theorem sQ {L:List T} (h:aV L) {t:T} (ht:t∈L):bY L t.m=t.c:=by
 induction L with
 |nil=>cases ht
 |cons s r ih=>
  rw[bY];rcases List.mem_cons.1 ht with rfl|ht'
  ·rw[if_pos (cF.2 rfl)]
  ·have h1:=(List.pairwise_cons.1 h.1).1 t ht';rw[if_neg (fun e=>by rw[cF.1 e]at h1;omega)];exact ih h.tail ht'
def allF:List M:=(List.range 16).flatMap fun(x:Nat)=>(List.range 16).map fun(y:Nat)=>(⟨(x:Int),(y:Int),0,0⟩:M)
theorem yW:allF.length=256:=by unfold allF;rw[iD 16 _ (fun x=>by simp)];simp
theorem yX {m:M} (h:m.ok=true) (hd:m.d=0) (he:m.e=0):m∈allF:=by obtain⟨x1,x2,y1,y2,d1,d2,e1,e2⟩:=M.ok_iff.1 h;unfold allF;refine List.mem_flatMap.2 ⟨m.x.toNat,List.mem_range.2 (by omega),List.mem_map.2 ⟨m.y.toNat,List.mem_range.2 (by omega),?_⟩⟩;cases m;simp only at x1 y1 hd he⊢;rw[Int.toNat_of_nonneg x1,Int.toNat_of_nonneg y1,hd,he]
theorem mE {L:List DT} (h:dT L=true):(cE (L.map (·.1)) []).length≤256:=by
 have hf:=dN (L.map (·.1)) [] (sC h) cL;have hnd:((cE (L.map (·.1)) []).map (·.m)).Nodup:=by rw[List.Nodup,List.pairwise_map];exact hf.1.1.imp (fun{a b} hab e=>by rw[e]at hab;omega)
 haveI:DecidableEq M:=fun a b=>Classical.propDecidable (a=b)
 have hl:=iR ((cE (L.map (·.1)) []).map (·.m)) allF hnd (fun m hm=>by
  obtain⟨t,ht,rfl⟩:=List.mem_map.1 hm;have hr:=hf.1.2 t ht
  by_cases hx:∃s∈L.map (·.1),s.m=t.m
  ·obtain⟨s,hs,he⟩:=hx;obtain⟨x,_,rfl⟩:=List.mem_map.1 hs;have hx2:=x.2
   rw[←he]at hr⊢;exact yX hr.1 hx2.2.2.1 hx2.2.2.2
  ·exfalso;have h0:=sQ hf.1 ht
   rw[hf.2,kF t.m _ _ (fun s hs e=>hx ⟨s,hs,e⟩)]at h0;change (0:Int)=t.c at h0
   omega)
 rw[yW,List.length_map]at hl;exact hl
theorem mQ (f:Nat→T) (la:Nat) (g:Nat→T) (lb:Nat):(dH f la g lb).1.length≤400:=by
 unfold dH;split
 ·split
  ·rename_i h;have:=mE h
   show(cE _ []).length≤400;omega
  ·simp
 ·simp
theorem uA (xs:List T) (t:T) (L:List T):cE (xs++[t]) L=fU t.c t.m (cE xs L):=by simp[cE]
theorem qU (xs:List T) (t:T) (c:M→Int):dL c (xs++[t])=gV (dL c xs) t.m t.c:=by simp[dL]
theorem tW (w:World) (a:Option Addr) (n cap:Nat) (f:Nat→T) (h:Rd w a n cap f):Calls Tryz.prog 82 #[.slice a n cap] w fun r w'=>r= .returned (.bool (cA n f))∧Below w.heap.size w w':=by
 have HR:=aA h;obtain⟨h1,h2,h3⟩:=h;have hn:(n:Int)≤140737488351232:=by omega
 have hno:Hid (∀k,k<n→((f k).m.d≠0∨(f k).m.e≠0)→cA n f=false):=fun k hk hd=>by
  cases hp:cA n f
  ·rfl
  ·exfalso;simp only[cA,Bool.and_eq_true,decide_eq_true_eq]at hp;have h1:=hp.2 k hk
   have h2:=hp.1;simp only[aN,decide_eq_true_eq]at h2;have h3:=h2.2 k hk
   simp only[eW,Bool.and_eq_true]at h3;have h4:=M.ok_iff.1 h3.1.2
   omega
 go_enter Tryz.func82,Tryz.ntmps82;go_wp2;go_loopw [7] (fun i wr=>∃k:Nat,k≤n∧i= .int .i64 k∧Below w.heap.size w wr∧Hid (∀j,j<k→(f j).m.d=0∧(f j).m.e=0)) (fun i _=>n-(intOf i).toNat);case atStart=>exact⟨0,gC _,rfl,aD _ _,fun j hj=>absurd hj (FE _)⟩
 case round=>
  obtain⟨k,hk,rfl,hB,hok⟩:=hrel;by_cases hlt:k<n
  ·rcases h3 with h0|⟨b,off,rfl,hblt,hcl⟩
   ·omega
   have hkn:(k:Int)<(n:Int):=by omega
   obtain⟨g0,g1,g2,g3,g4⟩:=(hcl k hlt).below hB hblt;have HB:Hid (∀o:Obj,Below w.heap.size w (wr.alloc o)):=fun o=>hB.alloc hB.size o
   clear hcl;by_cases hd:(f k).m.d=0
   ·have hdb:((f k).m.d !=0)=false:=by simp[hd]
    by_cases he:(f k).m.e=0
    ·have heb:((f k).m.e !=0)=false:=by simp[he]
     have hok':Hid (∀j,j<k+1→(f j).m.d=0∧(f j).m.e=0):=fun j hj=>by
      by_cases hjk:j=k
      ·rw[hjk];exact⟨hd,he⟩
      ·exact hok.out j (by omega)
     clear hok hd he;go_wp2;go_roundw;case rel=>exact⟨k+1,by omega,by go_num,HB.out _,hok'⟩
     case measure=>simp[intOf];omega
    ·have heb:((f k).m.e !=0)=true:=by simp[he]
     have HF:Hid (cA n f=false):=hno.out k hlt (.inr he);clear hok hd he hno;go_wp2;go_ret;exact⟨by rw[HF.out];rfl,HB.out _⟩
   ·have hdb:((f k).m.d !=0)=true:=by simp[hd]
    have HF:Hid (cA n f=false):=hno.out k hlt (.inl hd);clear hok hd hno;go_wp2;go_ret;exact⟨by rw[HF.out];rfl,HB.out _⟩
  ·have HE:Hid (cA n f=aN n f):=by
    show _=_;have:(∀i,i<n→(f i).m.d+(f i).m.e≤0):=fun i hi=>by have:=hok.out i (by omega);omega
    rw[cA,decide_eq_true this,Bool.and_true]
   clear hok hno;go_wp2_with fail;refine(dM _ _ _ _ f (HR.out.below hB)).mono ?_;rintro r w1 ⟨rfl,hb⟩;have HB1:=aA (aC hB hb)
   clear hb;go_wp2;go_ret;exact⟨by rw[HE.out];rfl,HB1.out⟩
end Go.Proofs.YtoglomfejgpoeaaGreatDoor
