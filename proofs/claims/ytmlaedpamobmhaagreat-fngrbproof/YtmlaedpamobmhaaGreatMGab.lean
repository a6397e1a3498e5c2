/-
  Two lists of operators are drawn (spec.DrawRedSum).
  A sum of products of two lists: the mathematics, and the model's RedSum.
  A sum of products of two lists: the program.
-/
import Derived.Test.YtmlaedpamobmhaaGreatMGaa
import Derived.Test.YtmlaedpamobmhaaGreatMCaa
set_option maxHeartbeats 8000000
set_option maxRecDepth 100000
namespace Go.Proofs.YtmlaedpamobmhaaGreat
open Go.RowKit Go.Deep Go.Joins
set_option linter.unusedVariables false
abbrev C3 (bs:Nat) (vs:Value) (B1:Nat) (v1:Value) (b2 o2:Nat) (v2:Value) (u:World):Prop:=u.cell? ⟨bs,0,none⟩=some vs∧u.cell? ⟨B1,0,none⟩=some v1∧u.cell? ⟨b2,o2,none⟩=some v2
theorem C3.below {bs B1 b2 o2:Nat} {vs v1 v2:Value} {u u':World} (h:C3 bs vs B1 v1 b2 o2 v2 u) (hb:Below u.heap.size u u'):C3 bs vs B1 v1 b2 o2 v2 u':=
 ⟨(hb.cell (p:=⟨bs,0,none⟩) (cE u _ h.1)).trans h.1,(hb.cell (p:=⟨B1,0,none⟩) (cE u _ h.2.1)).trans h.2.1,(hb.cell (p:=⟨b2,o2,none⟩) (cE u _ h.2.2)).trans h.2.2⟩
def eZ (w0:World) (S:Option (List T)) (r:Ending) (w':World):Prop:=
 Below w0.heap.size w0 w'∧((∃K a c,S=some K∧cM K=true∧r= .returned (.tuple #[])∧w'.cell? ⟨w0.heap.size,0,none⟩=some (.slice a K.length c)∧iA (w0.heap.size+1) w' a c K)∨(S=none∧r= .panicked [{v:=dW,recovered:=false}]))
theorem eZ.no {w0:World} {S:Option (List T)} {w':World} (hb:Below w0.heap.size w0 w') (h:S=none):eZ w0 S (.panicked [{v:=dW,recovered:=false}]) w':=⟨hb,.inr ⟨h,rfl⟩⟩
theorem eZ.yes {w0:World} {S:Option (List T)} {w':World} {K:List T} {a:Option Addr} {c:Nat} (hb:Below w0.heap.size w0 w') (h:S=some K) (hk:cM K=true) (hc:w'.cell? ⟨w0.heap.size,0,none⟩=some (.slice a K.length c)) (ho:iA (w0.heap.size+1) w' a c K):eZ w0 S (.returned (.tuple #[])) w':=⟨hb,.inl ⟨K,a,c,h,hk,rfl,hc,ho⟩⟩
theorem Gd (w0 W:World) (B0 B1:Nat) (n:Nat) (a1:Option Addr) (c1:Nat) (ad1:Nat→Option Addr) (ln1 cp1:Nat→Nat) (f1:Nat→Nat→T) (h1:eJ w0 a1 n c1 ad1 ln1 cp1 f1) (a2:Option Addr) (c2:Nat) (ad2:Nat→Option Addr) (ln2 cp2:Nat→Nat) (f2:Nat→Nat→T) (h2:eJ w0 a2 n c2 ad2 ln2 cp2 f2) (k0:w0.cell? ⟨B0,0,none⟩=some (.slice a1 n c1)) (k1:w0.cell? ⟨B1,0,none⟩=some (.slice a2 n c2)) (hb:Below w0.heap.size w0 W) (hs:W.cell? ⟨w0.heap.size,0,none⟩=some (.slice none 0 0)) (hf:W.frozen? ⟨w0.heap.size,0,none⟩=false):Calls Tryz.prog 47 #[.pointer (some ⟨B0,0,none⟩),.pointer (some ⟨w0.heap.size,0,none⟩),.pointer (some ⟨B1,0,none⟩)] W fun r w'=>eZ w0 (jZ ln1 f1 ln2 f2 n) r w':=by
 have qn:(n:Int)≤140737488351232:=by have:=h1.2.1;omega
 have H1:=aA h1;have H2:=aA h2
 have HB0:=aA hb;have hl0:=cE w0 _ k0
 have hl1:=cE w0 _ k1;have K1:=aA k1
 have g0:W.cell? ⟨B0,0,none⟩=some (.slice a1 n c1):=(hb.cell (p:=⟨B0,0,none⟩) hl0).trans k0;have HS0:=aA hs
 have HF0:=aA hf;have hw1:w0.heap.size+1≤W.heap.size:=cE W _ hs
 clear h1 h2 k0 k1 hb hs hf;go_enter Tryz.func47,Tryz.ntmps47;go_wp2;clear g0;go_loopw [7] (fun v wr=>∃(i:Nat) (K:List T) (a:Option Addr) (c:Nat),i≤n∧v= .int .i64 (i:Int)∧jZ ln1 f1 ln2 f2 i=some K∧cM K=true∧Below w0.heap.size w0 wr∧wr.cell? ⟨w0.heap.size,0,none⟩=some (.slice a K.length c)∧wr.frozen? ⟨w0.heap.size,0,none⟩=false∧iA (w0.heap.size+1) wr a c K) (fun v _=>n-(intOf v).toNat);case atStart=>exact⟨0,[],none,0,gY _,rfl,rfl,jM,HB0.out,HS0.out,HF0.out,iA.nil _ _⟩
 case round=>
  obtain⟨i,K,a,c,hi,rfl,hs,hK,hB,hcl,hfz,hout⟩:=hrel;have HS:=aA hs
  have HK:=aA hK;have HB:=aA hB
  have HO:=aA hout;have HF:=aA hfz
  have HCL:=aA hcl;clear hs hK hout hfz;by_cases hlt:i<n
  ·rcases H1.out.2.2.1 with h0|⟨b1,off1,rfl,hb1,hc1⟩
   ·omega
   rcases H2.out.2.2.1 with h0|⟨b2,off2,rfl,hb2,hc2⟩
   ·omega
   have hil:(i:Int)<(n:Int):=by omega
   have g1:wr.cell? ⟨b1,off1+i,none⟩=some (.slice (ad1 i) (ln1 i) (cp1 i)):=(hB.cell (p:=⟨b1,off1+i,none⟩) hb1).trans (hc1 i hlt);have g2:wr.cell? ⟨b2,off2+i,none⟩=some (.slice (ad2 i) (ln2 i) (cp2 i)):=(hB.cell (p:=⟨b2,off2+i,none⟩) hb2).trans (hc2 i hlt)
   have g3:wr.cell? ⟨B1,0,none⟩=some (.slice (some ⟨b2,off2,none⟩) n c2):=(hB.cell (p:=⟨B1,0,none⟩) hl1).trans K1.out;have hS:C3 w0.heap.size (.slice a K.length c) B1 (.slice (some ⟨b2,off2,none⟩) n c2) b2 (off2+i) (.slice (ad2 i) (ln2 i) (cp2 i)) wr.drew:=⟨hcl,g3,g2⟩
   have R1:=aA (((H1.out.2.2.2 i hlt).below hB).below (bQ _ _).drew);have R2:=aA (((H2.out.2.2.2 i hlt).below hB).below (bQ _ _).drew)
   have HBD:=aA hB.drew;have HOD:=aA (HO.out.below (bQ _ _).drew)
   have hmul:=tV wr.drew (ad1 i) (ad2 i) (ln1 i) (cp1 i) (ln2 i) (cp2 i) (f1 i) (f2 i) R1.out R2.out;have HZ:Hid (∀u v:World,Below wr.drew.heap.size wr.drew u→Below u.heap.size u v→v.frozen? ⟨w0.heap.size,0,none⟩=false):=fun u v q1 q2=>(q2.frozen (p:=⟨w0.heap.size,0,none⟩) (cE u _ ((hS.below q1).1))).trans ((q1.frozen (p:=⟨w0.heap.size,0,none⟩) (cE wr.drew _ hS.1)).trans HF.out)
   clear hc1 hc2 hB;have hcs:(aS (f1 i) (ln1 i) (f2 i) (ln2 i)=([],false)∧jY K (f1 i) (ln1 i) (f2 i) (ln2 i)=none)∨(∃P,aS (f1 i) (ln1 i) (f2 i) (ln2 i)=(P,true)∧wB K P=([],false)∧jY K (f1 i) (ln1 i) (f2 i) (ln2 i)=none)∨(∃P,aS (f1 i) (ln1 i) (f2 i) (ln2 i)=(P,true)∧wB K P=(bT K P,true)∧jY K (f1 i) (ln1 i) (f2 i) (ln2 i)=some (bT K P)∧cM (bT K P)=true):=by
    rcases zF HK.out (f1 i) (ln1 i) (f2 i) (ln2 i)with⟨hp,hw,hst⟩|⟨p1,p2,hm,hw,hst⟩|⟨P,p1,p2,hm,hw,hP,hl,ha,hst⟩|⟨P,p1,p2,hm,hw,hP,hl,ha,hst,hok⟩
    ·exact .inl ⟨hw,hst⟩
    ·exact .inl ⟨hw,hst⟩
    ·exact .inr (.inl ⟨P,hw,ha,hst⟩)
    ·exact .inr (.inr ⟨P,hw,ha,hst,hok⟩)
   have HNO:Hid (jY K (f1 i) (ln1 i) (f2 i) (ln2 i)=none→jZ ln1 f1 ln2 f2 n=none):=fun hst=>by have:=rS ((rT HS.out).trans hst) (n-(i+1));rw[show i+1+(n-(i+1))=n by omega]at this;exact this
   rcases hcs with⟨hw,hst⟩|⟨P,hw,ha,hst⟩|⟨P,hw,ha,hst,hok⟩
   ·have HN:=aA (HNO.out hst);rw[hw]at hmul;clear hw hst HNO;have hs0:wr.drew.cell? ⟨w0.heap.size,0,none⟩=some (.slice a K.length c):=hS.1
    have e2:wr.drew.cell? ⟨B1,0,none⟩=some (.slice (some ⟨b2,off2,none⟩) n c2):=hS.2.1;have e3:wr.drew.cell? ⟨b2,off2+i,none⟩=some (.slice (ad2 i) (ln2 i) (cp2 i)):=hS.2.2
    have HSS:=aA hS;clear hS;go_wp2_with fail;refine wp_region_any (by kernel_rfl) ?_
    (try(change wpAny _ _ _ _ _ _ _ (World.drew _)))
    refine wpAny_take (i:=1) (v:=?_) rfl (by kernel_rfl) (by kernel_rfl) (by kernel_rfl) (fun _ _ _ h=>h) (Or.inl ⟨by rfl,?_⟩) ?_;rotate_left
    ·(intro w9;go_simp)<;>with_reducible rfl
    refine wpAny_take (i:=3) (v:=?_) rfl (by kernel_rfl) (by kernel_rfl) (by kernel_rfl) (fun _ _ _ h=>h) (Or.inl ⟨by rfl,?_⟩) ?_;rotate_left
    ·(intro w9;go_simp)<;>with_reducible rfl
    refine wpAny_ready (rs:=[0,2]) (by kernel_rfl) (by simp) ?_;refine AllReady.cons rfl (fun KK hKK=>?_) ?_
    ·go_simp
     (try(refine hKK _ _ ?_;clear hKK KK))
     refine wpAny_ready (rs:=[2]) (by kernel_rfl) (by simp) ?_;refine AllReady.cons rfl (fun KK hKK=>?_) ?_
     ·go_simp
      (try(refine hKK _ _ ?_;clear hKK KK))
      refine wpAny_take (i:=4) (v:=?_) rfl (by kernel_rfl) (by kernel_rfl) (by kernel_rfl) (fun _ _ _ h=>h) (Or.inl ⟨by rfl,?_⟩) ?_;rotate_left
      ·(intro w9;go_simp)<;>with_reducible rfl
      refine wpAny_ready (rs:=[5]) (by kernel_rfl) (by simp) ?_;refine AllReady.cons rfl (fun KK hKK=>?_) ?_
      ·go_simp
       (try(refine hKK _ _ ?_;clear hKK KK))
       refine wpAny_ready (rs:=[6]) (by kernel_rfl) (by simp) ?_;refine AllReady.cons rfl (fun KK hKK=>?_) ?_
       ·go_simp;go_wp2_with (go_at_call 50;refine hmul.mono ?_;rintro e w1 ⟨p1a,p1c,rfl,bb1,oo1⟩;have hs1:=(HSS.out.below bb1).1)
        (try(refine hKK _ _ ?_;clear hKK KK))
        refine wpAny_take (i:=7) (v:=?_) rfl (by kernel_rfl) (by kernel_rfl) (by kernel_rfl) (fun _ _ _ h=>h) (Or.inl ⟨by rfl,?_⟩) ?_;rotate_left
        ·(intro w9;go_simp)<;>with_reducible rfl
        refine wpAny_take (i:=8) (v:=?_) rfl (by kernel_rfl) (by kernel_rfl) (by kernel_rfl) (fun _ _ _ h=>h) (Or.inl ⟨by rfl,?_⟩) ?_;rotate_left
        ·(intro w9;go_simp)<;>with_reducible rfl
        refine wpAny_ready (rs:=[9]) (by kernel_rfl) (by simp) ?_;refine AllReady.cons rfl (fun KK hKK=>?_) ?_
        ·go_simp;go_wp2_with (go_at_call 48;refine(bC _ _).mono ?_;rintro e wn ⟨rfl,hwn⟩;obtain rfl:=hwn.symm;clear hwn);exact⟨rfl,eZ.no (aB HBD.out bb1) HN.out⟩
        exact AllReady.nil
       exact AllReady.nil
      exact AllReady.nil
     exact AllReady.nil
    refine AllReady.cons rfl (fun KK hKK=>?_) ?_
    ·go_simp
     (try(refine hKK _ _ ?_;clear hKK KK))
     refine wpAny_take (i:=4) (v:=?_) rfl (by kernel_rfl) (by kernel_rfl) (by kernel_rfl) (fun _ _ _ h=>h) (Or.inl ⟨by rfl,?_⟩) ?_;rotate_left
     ·(intro w9;go_simp)<;>with_reducible rfl
     refine wpAny_ready (rs:=[0,5]) (by kernel_rfl) (by simp) ?_;refine AllReady.cons rfl (fun KK hKK=>?_) ?_
     ·go_simp
      (try(refine hKK _ _ ?_;clear hKK KK))
      refine wpAny_ready (rs:=[5]) (by kernel_rfl) (by simp) ?_;refine AllReady.cons rfl (fun KK hKK=>?_) ?_
      ·go_simp
       (try(refine hKK _ _ ?_;clear hKK KK))
       refine wpAny_ready (rs:=[6]) (by kernel_rfl) (by simp) ?_;refine AllReady.cons rfl (fun KK hKK=>?_) ?_
       ·go_simp;go_wp2_with (go_at_call 50;refine hmul.mono ?_;rintro e w1 ⟨p1a,p1c,rfl,bb1,oo1⟩;have hs1:=(HSS.out.below bb1).1)
        (try(refine hKK _ _ ?_;clear hKK KK))
        refine wpAny_take (i:=7) (v:=?_) rfl (by kernel_rfl) (by kernel_rfl) (by kernel_rfl) (fun _ _ _ h=>h) (Or.inl ⟨by rfl,?_⟩) ?_;rotate_left
        ·(intro w9;go_simp)<;>with_reducible rfl
        refine wpAny_take (i:=8) (v:=?_) rfl (by kernel_rfl) (by kernel_rfl) (by kernel_rfl) (fun _ _ _ h=>h) (Or.inl ⟨by rfl,?_⟩) ?_;rotate_left
        ·(intro w9;go_simp)<;>with_reducible rfl
        refine wpAny_ready (rs:=[9]) (by kernel_rfl) (by simp) ?_;refine AllReady.cons rfl (fun KK hKK=>?_) ?_
        ·go_simp;go_wp2_with (go_at_call 48;refine(bC _ _).mono ?_;rintro e wn ⟨rfl,hwn⟩;obtain rfl:=hwn.symm;clear hwn);exact⟨rfl,eZ.no (aB HBD.out bb1) HN.out⟩
        exact AllReady.nil
       exact AllReady.nil
      exact AllReady.nil
     refine AllReady.cons rfl (fun KK hKK=>?_) ?_
     ·go_simp
      (try(refine hKK _ _ ?_;clear hKK KK))
      refine wpAny_ready (rs:=[0,6]) (by kernel_rfl) (by simp) ?_;refine AllReady.cons rfl (fun KK hKK=>?_) ?_
      ·go_simp
       (try(refine hKK _ _ ?_;clear hKK KK))
       refine wpAny_ready (rs:=[6]) (by kernel_rfl) (by simp) ?_;refine AllReady.cons rfl (fun KK hKK=>?_) ?_
       ·go_simp;go_wp2_with (go_at_call 50;refine hmul.mono ?_;rintro e w1 ⟨p1a,p1c,rfl,bb1,oo1⟩;have hs1:=(HSS.out.below bb1).1)
        (try(refine hKK _ _ ?_;clear hKK KK))
        refine wpAny_take (i:=7) (v:=?_) rfl (by kernel_rfl) (by kernel_rfl) (by kernel_rfl) (fun _ _ _ h=>h) (Or.inl ⟨by rfl,?_⟩) ?_;rotate_left
        ·(intro w9;go_simp)<;>with_reducible rfl
        refine wpAny_take (i:=8) (v:=?_) rfl (by kernel_rfl) (by kernel_rfl) (by kernel_rfl) (fun _ _ _ h=>h) (Or.inl ⟨by rfl,?_⟩) ?_;rotate_left
        ·(intro w9;go_simp)<;>with_reducible rfl
        refine wpAny_ready (rs:=[9]) (by kernel_rfl) (by simp) ?_;refine AllReady.cons rfl (fun KK hKK=>?_) ?_
        ·go_simp;go_wp2_with (go_at_call 48;refine(bC _ _).mono ?_;rintro e wn ⟨rfl,hwn⟩;obtain rfl:=hwn.symm;clear hwn);exact⟨rfl,eZ.no (aB HBD.out bb1) HN.out⟩
        exact AllReady.nil
       exact AllReady.nil
      refine AllReady.cons rfl (fun KK hKK=>?_) ?_
      ·go_simp;go_wp2_with (go_at_call 50;refine hmul.mono ?_;rintro e w1 ⟨p1a,p1c,rfl,bb1,oo1⟩;have hs1:=(HSS.out.below bb1).1)
       (try(refine hKK _ _ ?_;clear hKK KK))
       refine wpAny_take (i:=7) (v:=?_) rfl (by kernel_rfl) (by kernel_rfl) (by kernel_rfl) (fun _ _ _ h=>h) (Or.inl ⟨by rfl,?_⟩) ?_;rotate_left
       ·(intro w9;go_simp)<;>with_reducible rfl
       refine wpAny_take (i:=8) (v:=?_) rfl (by kernel_rfl) (by kernel_rfl) (by kernel_rfl) (fun _ _ _ h=>h) (Or.inl ⟨by rfl,?_⟩) ?_;rotate_left
       ·(intro w9;go_simp)<;>with_reducible rfl
       refine wpAny_ready (rs:=[0,9]) (by kernel_rfl) (by simp) ?_;refine AllReady.cons rfl (fun KK hKK=>?_) ?_
       ·go_simp
        (try(refine hKK _ _ ?_;clear hKK KK))
        refine wpAny_ready (rs:=[9]) (by kernel_rfl) (by simp) ?_;refine AllReady.cons rfl (fun KK hKK=>?_) ?_
        ·go_simp;go_wp2_with (go_at_call 48;refine(bC _ _).mono ?_;rintro e wn ⟨rfl,hwn⟩;obtain rfl:=hwn.symm;clear hwn);exact⟨rfl,eZ.no (aB HBD.out bb1) HN.out⟩
        exact AllReady.nil
       refine AllReady.cons rfl (fun KK hKK=>?_) ?_
       ·go_simp;go_wp2_with (go_at_call 48;refine(bC _ _).mono ?_;rintro e wn ⟨rfl,hwn⟩;obtain rfl:=hwn.symm;clear hwn);exact⟨rfl,eZ.no (aB HBD.out bb1) HN.out⟩
       exact AllReady.nil
      exact AllReady.nil
     exact AllReady.nil
    exact AllReady.nil
   ·have HN:=aA (HNO.out hst);rw[hw]at hmul;clear hw hst HNO;have hadd:∀(u:World) (a':Option Addr) (c':Nat),RL u a c K→RL u a' c' P→Calls Tryz.prog 49 #[.slice a K.length c,.slice a' P.length c'] u fun r w'=>∃a'' c'',r= .returned (.tuple #[.slice a'' ([]:List T).length c'',.bool false])∧Below u.heap.size u w'∧iA u.heap.size w' a'' c'' ([]:List T):=fun u a' c' q1 q2=>by have:=MU u a a' K.length c P.length c' (lf K) (lf P) q1 q2;rw[show mO (lf K) K.length (lf P) P.length=(([]:List T),false)from ha]at this;exact this
    have HADD:=aA hadd;clear hadd ha;have hs0:wr.drew.cell? ⟨w0.heap.size,0,none⟩=some (.slice a K.length c):=hS.1
    have e2:wr.drew.cell? ⟨B1,0,none⟩=some (.slice (some ⟨b2,off2,none⟩) n c2):=hS.2.1;have e3:wr.drew.cell? ⟨b2,off2+i,none⟩=some (.slice (ad2 i) (ln2 i) (cp2 i)):=hS.2.2
    have HSS:=aA hS;clear hS;go_wp2_with fail;refine wp_region_any (by kernel_rfl) ?_
    (try(change wpAny _ _ _ _ _ _ _ (World.drew _)))
    refine wpAny_take (i:=1) (v:=?_) rfl (by kernel_rfl) (by kernel_rfl) (by kernel_rfl) (fun _ _ _ h=>h) (Or.inl ⟨by rfl,?_⟩) ?_;rotate_left
    ·(intro w9;go_simp)<;>with_reducible rfl
    refine wpAny_take (i:=3) (v:=?_) rfl (by kernel_rfl) (by kernel_rfl) (by kernel_rfl) (fun _ _ _ h=>h) (Or.inl ⟨by rfl,?_⟩) ?_;rotate_left
    ·(intro w9;go_simp)<;>with_reducible rfl
    refine wpAny_ready (rs:=[0,2]) (by kernel_rfl) (by simp) ?_;refine AllReady.cons rfl (fun KK hKK=>?_) ?_
    ·go_simp
     (try(refine hKK _ _ ?_;clear hKK KK))
     refine wpAny_ready (rs:=[2]) (by kernel_rfl) (by simp) ?_;refine AllReady.cons rfl (fun KK hKK=>?_) ?_
     ·go_simp
      (try(refine hKK _ _ ?_;clear hKK KK))
      refine wpAny_take (i:=4) (v:=?_) rfl (by kernel_rfl) (by kernel_rfl) (by kernel_rfl) (fun _ _ _ h=>h) (Or.inl ⟨by rfl,?_⟩) ?_;rotate_left
      ·(intro w9;go_simp)<;>with_reducible rfl
      refine wpAny_ready (rs:=[5]) (by kernel_rfl) (by simp) ?_;refine AllReady.cons rfl (fun KK hKK=>?_) ?_
      ·go_simp
       (try(refine hKK _ _ ?_;clear hKK KK))
       refine wpAny_ready (rs:=[6]) (by kernel_rfl) (by simp) ?_;refine AllReady.cons rfl (fun KK hKK=>?_) ?_
       ·go_simp;go_wp2_with (go_at_call 50;refine hmul.mono ?_;rintro e w1 ⟨p1a,p1c,rfl,bb1,oo1⟩;have hs1:=(HSS.out.below bb1).1)
        (try(refine hKK _ _ ?_;clear hKK KK))
        refine wpAny_take (i:=7) (v:=?_) rfl (by kernel_rfl) (by kernel_rfl) (by kernel_rfl) (fun _ _ _ h=>h) (Or.inl ⟨by rfl,?_⟩) ?_;rotate_left
        ·(intro w9;go_simp)<;>with_reducible rfl
        refine wpAny_take (i:=8) (v:=?_) rfl (by kernel_rfl) (by kernel_rfl) (by kernel_rfl) (fun _ _ _ h=>h) (Or.inl ⟨by rfl,?_⟩) ?_;rotate_left
        ·(intro w9;go_simp)<;>with_reducible rfl
        refine wpAny_ready (rs:=[9]) (by kernel_rfl) (by simp) ?_;refine AllReady.cons rfl (fun KK hKK=>?_) ?_
        ·go_simp;go_wp2_with (go_at_call 48;refine(cD _ _).mono ?_;rintro e wn ⟨rfl,hwn⟩;obtain rfl:=hwn.symm;clear hwn)
         (try(refine hKK _ _ ?_;clear hKK KK))
         refine wpAny_ready (rs:=[10]) (by kernel_rfl) (by simp) ?_;refine AllReady.cons rfl (fun KK hKK=>?_) ?_
         ·go_simp;go_wp2_with (go_at_call 49;refine(HADD.out w1 p1a p1c (HOD.out.1.below bb1) oo1.1).mono ?_;rintro e w2 ⟨p2a,p2c,rfl,bb2,oo2⟩)
          (try(refine hKK _ _ ?_;clear hKK KK))
          refine wpAny_take (i:=11) (v:=?_) rfl (by kernel_rfl) (by kernel_rfl) (by kernel_rfl) (fun _ _ _ h=>h) (Or.inl ⟨by rfl,?_⟩) ?_;rotate_left
          ·(intro w9;go_simp)<;>with_reducible rfl
          refine wpAny_take (i:=12) (v:=?_) rfl (by kernel_rfl) (by kernel_rfl) (by kernel_rfl) (fun _ _ _ h=>h) (Or.inl ⟨by rfl,?_⟩) ?_;rotate_left
          ·(intro w9;go_simp)<;>with_reducible rfl
          refine wpAny_ready (rs:=[13]) (by kernel_rfl) (by simp) ?_;refine AllReady.cons rfl (fun KK hKK=>?_) ?_
          ·go_simp;go_wp2_with (go_at_call 48;refine(bC _ _).mono ?_;rintro e wn ⟨rfl,hwn⟩;obtain rfl:=hwn.symm;clear hwn);exact⟨rfl,eZ.no (aB (aB HBD.out bb1) bb2) HN.out⟩
          exact AllReady.nil
         exact AllReady.nil
        exact AllReady.nil
       exact AllReady.nil
      exact AllReady.nil
     exact AllReady.nil
    refine AllReady.cons rfl (fun KK hKK=>?_) ?_
    ·go_simp
     (try(refine hKK _ _ ?_;clear hKK KK))
     refine wpAny_take (i:=4) (v:=?_) rfl (by kernel_rfl) (by kernel_rfl) (by kernel_rfl) (fun _ _ _ h=>h) (Or.inl ⟨by rfl,?_⟩) ?_;rotate_left
     ·(intro w9;go_simp)<;>with_reducible rfl
     refine wpAny_ready (rs:=[0,5]) (by kernel_rfl) (by simp) ?_;refine AllReady.cons rfl (fun KK hKK=>?_) ?_
     ·go_simp
      (try(refine hKK _ _ ?_;clear hKK KK))
      refine wpAny_ready (rs:=[5]) (by kernel_rfl) (by simp) ?_;refine AllReady.cons rfl (fun KK hKK=>?_) ?_
      ·go_simp
       (try(refine hKK _ _ ?_;clear hKK KK))
       refine wpAny_ready (rs:=[6]) (by kernel_rfl) (by simp) ?_;refine AllReady.cons rfl (fun KK hKK=>?_) ?_
       ·go_simp;go_wp2_with (go_at_call 50;refine hmul.mono ?_;rintro e w1 ⟨p1a,p1c,rfl,bb1,oo1⟩;have hs1:=(HSS.out.below bb1).1)
        (try(refine hKK _ _ ?_;clear hKK KK))
        refine wpAny_take (i:=7) (v:=?_) rfl (by kernel_rfl) (by kernel_rfl) (by kernel_rfl) (fun _ _ _ h=>h) (Or.inl ⟨by rfl,?_⟩) ?_;rotate_left
        ·(intro w9;go_simp)<;>with_reducible rfl
        refine wpAny_take (i:=8) (v:=?_) rfl (by kernel_rfl) (by kernel_rfl) (by kernel_rfl) (fun _ _ _ h=>h) (Or.inl ⟨by rfl,?_⟩) ?_;rotate_left
        ·(intro w9;go_simp)<;>with_reducible rfl
        refine wpAny_ready (rs:=[9]) (by kernel_rfl) (by simp) ?_;refine AllReady.cons rfl (fun KK hKK=>?_) ?_
        ·go_simp;go_wp2_with (go_at_call 48;refine(cD _ _).mono ?_;rintro e wn ⟨rfl,hwn⟩;obtain rfl:=hwn.symm;clear hwn)
         (try(refine hKK _ _ ?_;clear hKK KK))
         refine wpAny_ready (rs:=[10]) (by kernel_rfl) (by simp) ?_;refine AllReady.cons rfl (fun KK hKK=>?_) ?_
         ·go_simp;go_wp2_with (go_at_call 49;refine(HADD.out w1 p1a p1c (HOD.out.1.below bb1) oo1.1).mono ?_;rintro e w2 ⟨p2a,p2c,rfl,bb2,oo2⟩)
          (try(refine hKK _ _ ?_;clear hKK KK))
          refine wpAny_take (i:=11) (v:=?_) rfl (by kernel_rfl) (by kernel_rfl) (by kernel_rfl) (fun _ _ _ h=>h) (Or.inl ⟨by rfl,?_⟩) ?_;rotate_left
          ·(intro w9;go_simp)<;>with_reducible rfl
          refine wpAny_take (i:=12) (v:=?_) rfl (by kernel_rfl) (by kernel_rfl) (by kernel_rfl) (fun _ _ _ h=>h) (Or.inl ⟨by rfl,?_⟩) ?_;rotate_left
          ·(intro w9;go_simp)<;>with_reducible rfl
          refine wpAny_ready (rs:=[13]) (by kernel_rfl) (by simp) ?_;refine AllReady.cons rfl (fun KK hKK=>?_) ?_
          ·go_simp;go_wp2_with (go_at_call 48;refine(bC _ _).mono ?_;rintro e wn ⟨rfl,hwn⟩;obtain rfl:=hwn.symm;clear hwn);exact⟨rfl,eZ.no (aB (aB HBD.out bb1) bb2) HN.out⟩
          exact AllReady.nil
         exact AllReady.nil
        exact AllReady.nil
       exact AllReady.nil
      exact AllReady.nil
     refine AllReady.cons rfl (fun KK hKK=>?_) ?_
     ·go_simp
      (try(refine hKK _ _ ?_;clear hKK KK))
      refine wpAny_ready (rs:=[0,6]) (by kernel_rfl) (by simp) ?_;refine AllReady.cons rfl (fun KK hKK=>?_) ?_
      ·go_simp
       (try(refine hKK _ _ ?_;clear hKK KK))
       refine wpAny_ready (rs:=[6]) (by kernel_rfl) (by simp) ?_;refine AllReady.cons rfl (fun KK hKK=>?_) ?_
       ·go_simp;go_wp2_with (go_at_call 50;refine hmul.mono ?_;rintro e w1 ⟨p1a,p1c,rfl,bb1,oo1⟩;have hs1:=(HSS.out.below bb1).1)
        (try(refine hKK _ _ ?_;clear hKK KK))
        refine wpAny_take (i:=7) (v:=?_) rfl (by kernel_rfl) (by kernel_rfl) (by kernel_rfl) (fun _ _ _ h=>h) (Or.inl ⟨by rfl,?_⟩) ?_;rotate_left
        ·(intro w9;go_simp)<;>with_reducible rfl
        refine wpAny_take (i:=8) (v:=?_) rfl (by kernel_rfl) (by kernel_rfl) (by kernel_rfl) (fun _ _ _ h=>h) (Or.inl ⟨by rfl,?_⟩) ?_;rotate_left
        ·(intro w9;go_simp)<;>with_reducible rfl
        refine wpAny_ready (rs:=[9]) (by kernel_rfl) (by simp) ?_;refine AllReady.cons rfl (fun KK hKK=>?_) ?_
        ·go_simp;go_wp2_with (go_at_call 48;refine(cD _ _).mono ?_;rintro e wn ⟨rfl,hwn⟩;obtain rfl:=hwn.symm;clear hwn)
         (try(refine hKK _ _ ?_;clear hKK KK))
         refine wpAny_ready (rs:=[10]) (by kernel_rfl) (by simp) ?_;refine AllReady.cons rfl (fun KK hKK=>?_) ?_
         ·go_simp;go_wp2_with (go_at_call 49;refine(HADD.out w1 p1a p1c (HOD.out.1.below bb1) oo1.1).mono ?_;rintro e w2 ⟨p2a,p2c,rfl,bb2,oo2⟩)
          (try(refine hKK _ _ ?_;clear hKK KK))
          refine wpAny_take (i:=11) (v:=?_) rfl (by kernel_rfl) (by kernel_rfl) (by kernel_rfl) (fun _ _ _ h=>h) (Or.inl ⟨by rfl,?_⟩) ?_;rotate_left
          ·(intro w9;go_simp)<;>with_reducible rfl
          refine wpAny_take (i:=12) (v:=?_) rfl (by kernel_rfl) (by kernel_rfl) (by kernel_rfl) (fun _ _ _ h=>h) (Or.inl ⟨by rfl,?_⟩) ?_;rotate_left
          ·(intro w9;go_simp)<;>with_reducible rfl
          refine wpAny_ready (rs:=[13]) (by kernel_rfl) (by simp) ?_;refine AllReady.cons rfl (fun KK hKK=>?_) ?_
          ·go_simp;go_wp2_with (go_at_call 48;refine(bC _ _).mono ?_;rintro e wn ⟨rfl,hwn⟩;obtain rfl:=hwn.symm;clear hwn);exact⟨rfl,eZ.no (aB (aB HBD.out bb1) bb2) HN.out⟩
          exact AllReady.nil
         exact AllReady.nil
        exact AllReady.nil
       exact AllReady.nil
      refine AllReady.cons rfl (fun KK hKK=>?_) ?_
      ·go_simp;go_wp2_with (go_at_call 50;refine hmul.mono ?_;rintro e w1 ⟨p1a,p1c,rfl,bb1,oo1⟩;have hs1:=(HSS.out.below bb1).1)
       (try(refine hKK _ _ ?_;clear hKK KK))
       refine wpAny_take (i:=7) (v:=?_) rfl (by kernel_rfl) (by kernel_rfl) (by kernel_rfl) (fun _ _ _ h=>h) (Or.inl ⟨by rfl,?_⟩) ?_;rotate_left
       ·(intro w9;go_simp)<;>with_reducible rfl
       refine wpAny_take (i:=8) (v:=?_) rfl (by kernel_rfl) (by kernel_rfl) (by kernel_rfl) (fun _ _ _ h=>h) (Or.inl ⟨by rfl,?_⟩) ?_;rotate_left
       ·(intro w9;go_simp)<;>with_reducible rfl
       refine wpAny_ready (rs:=[0,9]) (by kernel_rfl) (by simp) ?_;refine AllReady.cons rfl (fun KK hKK=>?_) ?_
       ·go_simp
        (try(refine hKK _ _ ?_;clear hKK KK))
        refine wpAny_ready (rs:=[9]) (by kernel_rfl) (by simp) ?_;refine AllReady.cons rfl (fun KK hKK=>?_) ?_
        ·go_simp;go_wp2_with (go_at_call 48;refine(cD _ _).mono ?_;rintro e wn ⟨rfl,hwn⟩;obtain rfl:=hwn.symm;clear hwn)
         (try(refine hKK _ _ ?_;clear hKK KK))
         refine wpAny_ready (rs:=[10]) (by kernel_rfl) (by simp) ?_;refine AllReady.cons rfl (fun KK hKK=>?_) ?_
         ·go_simp;go_wp2_with (go_at_call 49;refine(HADD.out w1 p1a p1c (HOD.out.1.below bb1) oo1.1).mono ?_;rintro e w2 ⟨p2a,p2c,rfl,bb2,oo2⟩)
          (try(refine hKK _ _ ?_;clear hKK KK))
          refine wpAny_take (i:=11) (v:=?_) rfl (by kernel_rfl) (by kernel_rfl) (by kernel_rfl) (fun _ _ _ h=>h) (Or.inl ⟨by rfl,?_⟩) ?_;rotate_left
          ·(intro w9;go_simp)<;>with_reducible rfl
          refine wpAny_take (i:=12) (v:=?_) rfl (by kernel_rfl) (by kernel_rfl) (by kernel_rfl) (fun _ _ _ h=>h) (Or.inl ⟨by rfl,?_⟩) ?_;rotate_left
          ·(intro w9;go_simp)<;>with_reducible rfl
          refine wpAny_ready (rs:=[13]) (by kernel_rfl) (by simp) ?_;refine AllReady.cons rfl (fun KK hKK=>?_) ?_
          ·go_simp;go_wp2_with (go_at_call 48;refine(bC _ _).mono ?_;rintro e wn ⟨rfl,hwn⟩;obtain rfl:=hwn.symm;clear hwn);exact⟨rfl,eZ.no (aB (aB HBD.out bb1) bb2) HN.out⟩
          exact AllReady.nil
         exact AllReady.nil
        exact AllReady.nil
       refine AllReady.cons rfl (fun KK hKK=>?_) ?_
       ·go_simp;go_wp2_with (go_at_call 48;refine(cD _ _).mono ?_;rintro e wn ⟨rfl,hwn⟩;obtain rfl:=hwn.symm;clear hwn)
        (try(refine hKK _ _ ?_;clear hKK KK))
        refine wpAny_ready (rs:=[0]) (by kernel_rfl) (by simp) ?_;refine AllReady.cons rfl (fun KK hKK=>?_) ?_
        ·go_simp
         (try(refine hKK _ _ ?_;clear hKK KK))
         refine wpAny_ready (rs:=[10]) (by kernel_rfl) (by simp) ?_;refine AllReady.cons rfl (fun KK hKK=>?_) ?_
         ·go_simp;go_wp2_with (go_at_call 49;refine(HADD.out w1 p1a p1c (HOD.out.1.below bb1) oo1.1).mono ?_;rintro e w2 ⟨p2a,p2c,rfl,bb2,oo2⟩)
          (try(refine hKK _ _ ?_;clear hKK KK))
          refine wpAny_take (i:=11) (v:=?_) rfl (by kernel_rfl) (by kernel_rfl) (by kernel_rfl) (fun _ _ _ h=>h) (Or.inl ⟨by rfl,?_⟩) ?_;rotate_left
          ·(intro w9;go_simp)<;>with_reducible rfl
          refine wpAny_take (i:=12) (v:=?_) rfl (by kernel_rfl) (by kernel_rfl) (by kernel_rfl) (fun _ _ _ h=>h) (Or.inl ⟨by rfl,?_⟩) ?_;rotate_left
          ·(intro w9;go_simp)<;>with_reducible rfl
          refine wpAny_ready (rs:=[13]) (by kernel_rfl) (by simp) ?_;refine AllReady.cons rfl (fun KK hKK=>?_) ?_
          ·go_simp;go_wp2_with (go_at_call 48;refine(bC _ _).mono ?_;rintro e wn ⟨rfl,hwn⟩;obtain rfl:=hwn.symm;clear hwn);exact⟨rfl,eZ.no (aB (aB HBD.out bb1) bb2) HN.out⟩
          exact AllReady.nil
         exact AllReady.nil
        exact AllReady.nil
       exact AllReady.nil
      exact AllReady.nil
     exact AllReady.nil
    exact AllReady.nil
   ·have HN:=aA ((rT HS.out).trans hst);rw[hw]at hmul;clear hw hst HNO;have hadd:∀(u:World) (a':Option Addr) (c':Nat),RL u a c K→RL u a' c' P→Calls Tryz.prog 49 #[.slice a K.length c,.slice a' P.length c'] u fun r w'=>∃a'' c'',r= .returned (.tuple #[.slice a'' (bT K P).length c'',.bool true])∧Below u.heap.size u w'∧iA u.heap.size w' a'' c'' (bT K P):=fun u a' c' q1 q2=>by have:=MU u a a' K.length c P.length c' (lf K) (lf P) q1 q2;rw[show mO (lf K) K.length (lf P) P.length=((bT K P),true)from ha]at this;exact this
    have HADD:=aA hadd;clear hadd ha;have hs0:wr.drew.cell? ⟨w0.heap.size,0,none⟩=some (.slice a K.length c):=hS.1
    have e2:wr.drew.cell? ⟨B1,0,none⟩=some (.slice (some ⟨b2,off2,none⟩) n c2):=hS.2.1;have e3:wr.drew.cell? ⟨b2,off2+i,none⟩=some (.slice (ad2 i) (ln2 i) (cp2 i)):=hS.2.2
    have HSS:=aA hS;clear hS;go_wp2_with fail
    go_region_with (first
     |(go_at_call 50;refine hmul.mono ?_;rintro e w1 ⟨p1a,p1c,rfl,bb1,oo1⟩;have hs1:=(HSS.out.below bb1).1)
     |(go_at_call 49;refine(HADD.out w1 p1a p1c (HOD.out.1.below bb1) oo1.1).mono ?_;rintro e w2 ⟨p2a,p2c,rfl,bb2,oo2⟩;have hz2:=HZ.out w1 w2 bb1 bb2;have hs2:=((HSS.out.below bb1).below bb2).1)
     |(go_at_call 48;refine(cD _ _).mono ?_;rintro e wn ⟨rfl,hwn⟩;obtain rfl:=hwn.symm;clear hwn))
    all_goals
     have HB2:=aA (aB (aB HBD.out bb1) bb2);have hz1:w0.heap.size+1≤w1.heap.size:=cE w1 _ hs1
     have HO2:=aA ((oo2.low hz1).set (o:=0) (v:=.slice p2a (bT K P).length p2c) (Nat.lt_succ_self _));have HC2:Hid ((w2.setCell ⟨w0.heap.size,0,none⟩ (.slice p2a (bT K P).length p2c)).cell? ⟨w0.heap.size,0,none⟩=some (.slice p2a (bT K P).length p2c)):=by show _=_;simp[go_sem,hs2]
     have HF2:Hid ((w2.setCell ⟨w0.heap.size,0,none⟩ (.slice p2a (bT K P).length p2c)).frozen? ⟨w0.heap.size,0,none⟩=false):=by show _=_;simp[go_sem,hz2]
     go_wp2;go_roundw;case rel=>exact⟨i+1,bT K P,p2a,p2c,by omega,by go_num,HN.out,hok,HB2.out.setCell (Nat.le_refl _) _,HC2.out,HF2.out,HO2.out⟩
     case measure=>simp[intOf];omega
  ·have hnl:¬(i:Int)<(n:Int):=by omega
   have hie:i=n:=by omega
   subst hie;go_wp2
   go_end0
   exact eZ.yes HB.out HS.out HK.out HCL.out HO.out
end Go.Proofs.YtmlaedpamobmhaaGreat
