/-
  More of the program's chapter 3: the number of a monomial, whether operators are the same, whether one has no slopes, so many times an operator.
-/
import Derived.Test.YtdidlcjhodejjaaGreatMNaa
import Derived.Test.YtdidlcjhodejjaaGreatMMac
set_option maxHeartbeats 8000000
set_option maxRecDepth 100000
namespace Go.Proofs.YtdidlcjhodejjaaGreat
open Go.RowKit
set_option linter.unusedVariables false
theorem Ek (w:World) (a a':Option Addr) (n cap n' cap':Nat) (f f':Nat→T) (h:Rd w a n cap f) (h':Rd w a' n' cap' f'):Calls Tryz.prog 56 #[.slice a n cap,.slice a' n' cap'] w fun r w'=>r= .returned (.bool (aO n f n' f'))∧Below w.heap.size w w':=by
 obtain⟨h1,h2,h3⟩:=h;obtain⟨h1',h2',h3'⟩:=h';have hn:(n:Int)≤140737488351232:=by omega
 have hn':(n':Int)≤140737488351232:=by omega
 by_cases hnn:n=n'
 ·subst hnn;go_enter Tryz.func56,Tryz.ntmps56;go_wp2;go_loopw [5] (fun i wr=>∃(k:Nat),k≤n∧i= .int .i64 k∧Below w.heap.size w wr∧Hid (∀j,j<k→(f j).eqB (f' j)=true)) (fun i _=>n-(intOf i).toNat);case atStart=>exact⟨0,Nat.zero_le _,rfl,bL _ _,fun j hj=>absurd hj (rT _)⟩
  case round=>
   obtain⟨k,hk,rfl,hB,hok⟩:=hrel;by_cases hlt:k<n
   ·rcases h3 with h0|⟨b,off,rfl,hblt,hcl⟩
    ·omega
    rcases h3' with h0|⟨b',off',rfl,hblt',hcl'⟩
    ·omega
    have hkn:(k:Int)<(n:Int):=by omega
    obtain⟨g0,g1,g2,g3,g4⟩:=(hcl k hlt).below hB hblt;obtain⟨p0,p1,p2,p3,p4⟩:=(hcl' k hlt).below hB hblt';clear hcl hcl';by_cases hc:(f k).c=(f' k).c
    ·skip
     by_cases hx:(f k).m.x=(f' k).m.x
     ·skip
      by_cases hy:(f k).m.y=(f' k).m.y
      ·skip
       by_cases hd:(f k).m.d=(f' k).m.d
       ·skip
        by_cases he:(f k).m.e=(f' k).m.e
        ·skip
         have HN:Hid (∀j,j<k+1→(f j).eqB (f' j)=true):=fun j hj=>by
          by_cases hjk:j=k
          ·rw[hjk];simp[T.eqB,M.eqB,hc,hx,hy,hd,he]
          ·exact hok.out j (by omega)
         clear hok;go_wp2_with fail
         go_quiet (fail)
         go_wp2;go_roundw;case rel=>exact⟨k+1,by omega,by go_num,below_drewN hB _,HN⟩
         case measure=>simp[intOf];omega
        ·skip
         have HN:Hid (aO n f n f'=false):=by
          show _=_;simp only[aO,decide_eq_false_iff_not];intro hh;have:=hh.2 k hlt
          simp[T.eqB,M.eqB,he]at this
         clear hok;go_wp2_with fail
         go_quiet (fail)
         go_wp2;go_ret;exact⟨by rw[HN.out];rfl,below_drewN hB _⟩
       ·skip
        have HN:Hid (aO n f n f'=false):=by
         show _=_;simp only[aO,decide_eq_false_iff_not];intro hh;have:=hh.2 k hlt
         simp[T.eqB,M.eqB,hd]at this
        clear hok;go_wp2_with fail
        go_quiet (fail)
        go_wp2;go_ret;exact⟨by rw[HN.out];rfl,below_drewN hB _⟩
      ·skip
       have HN:Hid (aO n f n f'=false):=by
        show _=_;simp only[aO,decide_eq_false_iff_not];intro hh;have:=hh.2 k hlt
        simp[T.eqB,M.eqB,hy]at this
       clear hok;go_wp2_with fail
       go_quiet (fail)
       go_wp2;go_ret;exact⟨by rw[HN.out];rfl,below_drewN hB _⟩
     ·skip
      have HN:Hid (aO n f n f'=false):=by
       show _=_;simp only[aO,decide_eq_false_iff_not];intro hh;have:=hh.2 k hlt
       simp[T.eqB,M.eqB,hx]at this
      clear hok;go_wp2_with fail
      go_quiet (fail)
      go_wp2;go_ret;exact⟨by rw[HN.out];rfl,below_drewN hB _⟩
    ·skip
     have HN:Hid (aO n f n f'=false):=by
      show _=_;simp only[aO,decide_eq_false_iff_not];intro hh;have:=hh.2 k hlt
      simp[T.eqB,M.eqB,hc]at this
     clear hok;go_wp2_with fail
     go_quiet (fail)
     go_wp2;go_ret;exact⟨by rw[HN.out];rfl,below_drewN hB _⟩
   ·have HP:Hid (aO n f n f'=true):=by show _=_;simp only[aO,decide_eq_true_eq];exact⟨trivial,fun i hi=>hok.out i (by omega)⟩
    clear hok;go_wp2;go_ret;exact⟨by rw[HP.out];rfl,hB⟩
 ·have hp:aO n f n' f'=false:=by simp only[aO,decide_eq_false_iff_not];exact fun h=>hnn h.1
  rw[hp];have hb:((n:Int)!=(n':Int))=true:=by simp;omega
  clear hp;go_enter Tryz.func56,Tryz.ntmps56;go_wp2;go_ret;exact⟨rfl,bL _ _⟩
theorem PM (w:World) (a a':Option Addr) (n cap n' cap':Nat) (f f':Nat→T) (h:Rd w a n cap f) (h':Rd w a' n' cap' f'):Calls Tryz.prog 100 #[.slice a n cap,.slice a' n' cap'] w fun r w'=>r= .returned (.bool (aO n f n' f'))∧Below w.heap.size w w':=by
 obtain⟨h1,h2,h3⟩:=h;obtain⟨h1',h2',h3'⟩:=h';have hn:(n:Int)≤140737488351232:=by omega
 have hn':(n':Int)≤140737488351232:=by omega
 by_cases hnn:n=n'
 ·subst hnn;go_enter Tryz.func100,Tryz.ntmps100;go_wp2;go_loopw [13] (fun i wr=>∃(k:Nat),k≤n∧i= .int .i64 k∧Below w.heap.size w wr∧Hid (∀j,j<k→(f j).eqB (f' j)=true)) (fun i _=>n-(intOf i).toNat);case atStart=>exact⟨0,Nat.zero_le _,rfl,bL _ _,fun j hj=>absurd hj (rT _)⟩
  case round=>
   obtain⟨k,hk,rfl,hB,hok⟩:=hrel;by_cases hlt:k<n
   ·rcases h3 with h0|⟨b,off,rfl,hblt,hcl⟩
    ·omega
    rcases h3' with h0|⟨b',off',rfl,hblt',hcl'⟩
    ·omega
    have hkn:(k:Int)<(n:Int):=by omega
    obtain⟨g0,g1,g2,g3,g4⟩:=(hcl k hlt).below hB hblt;obtain⟨p0,p1,p2,p3,p4⟩:=(hcl' k hlt).below hB hblt';clear hcl hcl';by_cases hc:(f k).c=(f' k).c
    ·skip
     by_cases hx:(f k).m.x=(f' k).m.x
     ·skip
      by_cases hy:(f k).m.y=(f' k).m.y
      ·skip
       by_cases hd:(f k).m.d=(f' k).m.d
       ·skip
        by_cases he:(f k).m.e=(f' k).m.e
        ·skip
         have HN:Hid (∀j,j<k+1→(f j).eqB (f' j)=true):=fun j hj=>by
          by_cases hjk:j=k
          ·rw[hjk];simp[T.eqB,M.eqB,hc,hx,hy,hd,he]
          ·exact hok.out j (by omega)
         clear hok;go_wp2_with fail
         go_quiet (fail)
         go_wp2;go_roundw;case rel=>exact⟨k+1,by omega,by go_num,below_drewN hB _,HN⟩
         case measure=>simp[intOf];omega
        ·skip
         have HN:Hid (aO n f n f'=false):=by
          show _=_;simp only[aO,decide_eq_false_iff_not];intro hh;have:=hh.2 k hlt
          simp[T.eqB,M.eqB,he]at this
         clear hok;go_wp2_with fail
         go_quiet (fail)
         go_wp2;go_ret;exact⟨by rw[HN.out];rfl,below_drewN hB _⟩
       ·skip
        have HN:Hid (aO n f n f'=false):=by
         show _=_;simp only[aO,decide_eq_false_iff_not];intro hh;have:=hh.2 k hlt
         simp[T.eqB,M.eqB,hd]at this
        clear hok;go_wp2_with fail
        go_quiet (fail)
        go_wp2;go_ret;exact⟨by rw[HN.out];rfl,below_drewN hB _⟩
      ·skip
       have HN:Hid (aO n f n f'=false):=by
        show _=_;simp only[aO,decide_eq_false_iff_not];intro hh;have:=hh.2 k hlt
        simp[T.eqB,M.eqB,hy]at this
       clear hok;go_wp2_with fail
       go_quiet (fail)
       go_wp2;go_ret;exact⟨by rw[HN.out];rfl,below_drewN hB _⟩
     ·skip
      have HN:Hid (aO n f n f'=false):=by
       show _=_;simp only[aO,decide_eq_false_iff_not];intro hh;have:=hh.2 k hlt
       simp[T.eqB,M.eqB,hx]at this
      clear hok;go_wp2_with fail
      go_quiet (fail)
      go_wp2;go_ret;exact⟨by rw[HN.out];rfl,below_drewN hB _⟩
    ·skip
     have HN:Hid (aO n f n f'=false):=by
      show _=_;simp only[aO,decide_eq_false_iff_not];intro hh;have:=hh.2 k hlt
      simp[T.eqB,M.eqB,hc]at this
     clear hok;go_wp2_with fail
     go_quiet (fail)
     go_wp2;go_ret;exact⟨by rw[HN.out];rfl,below_drewN hB _⟩
   ·have HP:Hid (aO n f n f'=true):=by show _=_;simp only[aO,decide_eq_true_eq];exact⟨trivial,fun i hi=>hok.out i (by omega)⟩
    clear hok;go_wp2;go_ret;exact⟨by rw[HP.out];rfl,hB⟩
 ·have hp:aO n f n' f'=false:=by simp only[aO,decide_eq_false_iff_not];exact fun h=>hnn h.1
  rw[hp];have hb:((n:Int)!=(n':Int))=true:=by simp;omega
  clear hp;go_enter Tryz.func100,Tryz.ntmps100;go_wp2;go_ret;exact⟨rfl,bL _ _⟩
theorem Ej (w:World) (a a':Option Addr) (n cap n' cap':Nat) (f f':Nat→T) (h:Rd w a n cap f) (h':Rd w a' n' cap' f'):Calls Tryz.prog 58 #[.slice a n cap,.slice a' n' cap'] w fun r w'=>r= .returned (.bool (aO n f n' f'))∧Below w.heap.size w w':=by
 have H:=aA h;have H':=aA h'
 clear h h';go_enter Tryz.func58,Tryz.ntmps58;go_wp2_with fail;refine(PM _ _ _ _ _ _ _ f f' H.out H'.out).mono ?_;rintro r w1 ⟨rfl,hb⟩;go_wp2;go_ret;exact⟨rfl,hb⟩
variable {w:World} {a b:Option Addr} {ca cb:Nat} {L K:List T}
theorem Kd (ha:RL w a ca L) (hb:RL w b cb K):Calls Tryz.prog 58 #[.slice a L.length ca,.slice b K.length cb] w (ZP w (.bool (sq L K))):=Ej w a b L.length ca K.length cb (lf L) (lf K) ha hb
end Go.Proofs.YtdidlcjhodejjaaGreat
namespace Go.Proofs.YtdidlcjhodejjaaGreat
open Go.RowKit Go.Deep Go.Joins
set_option linter.unusedVariables false
set_option linter.unusedSimpArgs false
def PF:Option (List (List T))→Option (List (List T))→Bool×Bool
 |some x,some y=>(YG x.length (bC x) y.length (bC y),true)
 |_,_=>(false,false)
def lU (o:Int) (n:Nat) (A:Nat→List T) (n':Nat) (B:Nat→List T):Bool×Bool:=PF (mV o n A) (mV o n' B)
theorem Cf:∀args w,(callFunc 58 args).run Tryz.prog w= .ok (.enter 58 args) w:=enters_of Tryz.func58 (by kernel_rfl) rfl
theorem Hu (w:World) (a a':Option Addr) (n cap n' cap':Nat) (ad ad':Nat→Option Addr) (cp cp':Nat→Nat) (L L':Nat→List T) (h:cZ w a n cap ad (lN L) cp (fN L)) (h':cZ w a' n' cap' ad' (lN L') cp' (fN L')):Calls Tryz.prog 57 #[.slice a n cap,.slice a' n' cap',.func (.func 58) #[] #[]] w (ZP w (.bool (YG n L n' L'))):=by
 have hn:(n:Int)≤140737488351232:=by have:=h.2.1;omega
 have hn':(n':Int)≤140737488351232:=by have:=h'.2.1;omega
 obtain⟨r,hr⟩:∃r,YG n L n' L'=r:=⟨_,rfl⟩
 rw[hr];have HR:=aA hr
 have HH:=aA h;have HH':=aA h'
 clear h h' hr;unfold ZP;by_cases hnn:n=n'
 ·subst hnn;have hne:((n:Int)!=(n:Int))=false:=by simp
  go_enter Tryz.func57,Tryz.ntmps57;go_wp2;go_loopw [17] (fun v wr=>∃i:Nat,i≤n∧v= .int .i64 (i:Int)∧Below w.heap.size w wr∧Hid (∀j,j<i→L j=L' j)) (fun v _=>n-(intOf v).toNat);case atStart=>exact⟨0,Nat.zero_le _,rfl,bL _ _,fun j hj=>absurd hj (rT _)⟩
  case round=>
   obtain⟨i,hi,rfl,hB,HJ⟩:=hrel;by_cases hlt:i<n
   ·rcases HH.out.2.2.1 with h0|⟨b,off,rfl,hblt,hcl⟩
    ·omega
    rcases HH'.out.2.2.1 with h0|⟨b',off',rfl,hblt',hcl'⟩
    ·omega
    have hil:(i:Int)<(n:Int):=by omega
    obtain⟨l,hl⟩:∃l,(L i).length=l:=⟨_,rfl⟩
    obtain⟨l',hl'⟩:∃l',(L' i).length=l':=⟨_,rfl⟩
    have g0:wr.cell? ⟨b,off+i,none⟩=some (.slice (ad i) l (cp i)):=(hB.cell (p:=⟨b,off+i,none⟩) hblt).trans (by rw[←hl];exact hcl i hlt);have g1:wr.cell? ⟨b',off'+i,none⟩=some (.slice (ad' i) l' (cp' i)):=(hB.cell (p:=⟨b',off'+i,none⟩) hblt').trans (by rw[←hl'];exact hcl' i hlt)
    have HK:=aA ((HH.out.2.2.2 i hlt).below hB);have HK':=aA ((HH'.out.2.2.2 i hlt).below hB)
    have HB:=aA hB;obtain⟨q,hq⟩:∃q,sq (L i) (L' i)=q:=⟨_,rfl⟩
    have HQ:=aA hq;have HCA:Hid (Calls Tryz.prog 58 #[.slice (ad i) l (cp i),.slice (ad' i) l' (cp' i)] wr fun r w'=>r= .returned (.bool q)∧Below wr.heap.size wr w'):=by have:=Kd (w:=wr) (a:=ad i) (ca:=cp i) (L:=L i) (b:=ad' i) (cb:=cp' i) (K:=L' i) HK.out HK'.out;rw[hq,hl,hl']at this;exact this
    have eg:=Cf;clear hcl hcl' hB hq hl hl';cases q
    ·have hr:r=false:=by
      rw[←HR.out];refine yM (fun hh=>?_);have h1:=HQ.out
      rw[hh.2 i hlt,rH]at h1;cases h1
     subst hr;go_wp2_with (go_at_fn 58;refine HCA.out.mono ?_;rintro e w2 ⟨rfl,hb2⟩;have HV:=aA hb2;clear hb2);go_ret;exact⟨rfl,aB HB.out HV.out⟩
    ·have HE:=aA (DW.1 HQ.out);go_wp2_with (go_at_fn 58;refine HCA.out.mono ?_;rintro e w2 ⟨rfl,hb2⟩;have HV:=aA hb2;clear hb2);go_roundw
     case rel=>exact⟨i+1,by omega,by go_num,aB HB.out HV.out,fun j hj=>by
      by_cases e:j=i
      ·rw[e];exact HE.out
      ·exact HJ.out j (by omega)⟩
     case measure=>simp[intOf];omega
   ·have hnl:¬(i:Int)<(n:Int):=by omega
    have hr:r=true:=by rw[←HR.out];exact AL.2 ⟨rfl,fun j hj=>HJ.out j (by omega)⟩
    subst hr;go_wp2;go_ret;exact⟨rfl,hB⟩
 ·have hne:((n:Int)!=(n':Int))=true:=by simp;omega
  have hr:r=false:=by rw[←HR.out];exact yM (fun hh=>hnn hh.1)
  subst hr;go_enter Tryz.func57,Tryz.ntmps57;go_wp2;go_ret;exact⟨rfl,bL _ _⟩
theorem Cl (w:World) (o:Int) (a a':Option Addr) (n cap n' cap':Nat) (ad ad':Nat→Option Addr) (cp cp':Nat→Nat) (A B:Nat→List T) (h:cZ w a n cap ad (lN A) cp (fN A)) (h':cZ w a' n' cap' ad' (lN B) cp' (fN B)):Calls Tryz.prog 19 #[.int .i64 o,.slice a n cap,.slice a' n' cap'] w fun r w'=>r= .returned (.tuple #[.bool (lU o n A n' B).1,.bool (lU o n A n' B).2])∧Below w.heap.size w w':=by
 have HC1:=aA (RG w o a n cap ad cp A h);have HC2:Hid (∀W,Below w.heap.size w W→Calls Tryz.prog 17 #[.int .i64 o,.slice a' n' cap'] W (kP W (mV o n' B))):=fun W hW=>RG W o a' n' cap' ad' cp' B (h'.below hW)
 obtain⟨R1,hR1⟩:∃R,mV o n A=R:=⟨_,rfl⟩
 obtain⟨R2,hR2⟩:∃R,mV o n' B=R:=⟨_,rfl⟩
 have e0:lU o n A n' B=PF R1 R2:=by unfold lU;rw[hR1,hR2]
 rw[e0];rw[hR1]at HC1;rw[hR2]at HC2;clear h h' hR1 hR2 e0;go_enter Tryz.func19,Tryz.ntmps19;go_wp2_with fail;refine HC1.out.mono ?_;rintro r w1 ⟨qa,qc,qad,qcp,Rb,Bb,rfl,hb1,hO1⟩;have HB1:=aA hb1
 have HO1:=aA hO1.rd;clear hb1 hO1;go_wp2_with fail;refine(HC2.out w1 HB1.out).mono ?_;rintro r w2 ⟨ya,yc,yad,ycp,Rb2,Bb2,rfl,hb2,hO2⟩;have HB2:=aA (aB HB1.out hb2)
 have HO3:=aA (HO1.out.below hb2);have HO2:=aA hO2.rd
 clear hb2 hO2 HO1;rcases R1 with _|x
 ·go_wp2;refine bY (results_tmp2 rfl _ _ _) rfl ?_;exact⟨rfl,HB2.out⟩
 ·rcases R2 with _|y
  ·go_wp2;refine bY (results_tmp2 rfl _ _ _) rfl ?_;exact⟨rfl,HB2.out⟩
  ·have HCE:Hid (Calls Tryz.prog 57 #[.slice qa x.length qc,.slice ya y.length yc,.func (.func 58) #[] #[]] w2 (ZP w2 (.bool (YG x.length (bC x) y.length (bC y))))):=Hu w2 qa ya x.length qc y.length yc _ _ _ _ (bC x) (bC y) HO3.out HO2.out;simp only[IE,Option.isSome,PF];go_wp2_with fail;refine HCE.out.mono ?_;rintro r w3 ⟨rfl,hb3⟩;have HB3:=aA (aB HB2.out hb3)
   clear hb3;go_wp2;refine bY (results_tmp2 rfl _ _ _) rfl ?_;exact⟨rfl,HB3.out⟩
theorem Cm (w:World) (o:Int) (a a':Option Addr) (n cap n' cap':Nat) (ad ad':Nat→Option Addr) (cp cp':Nat→Nat) (A B:Nat→List T) (h:cZ w a n cap ad (lN A) cp (fN A)) (h':cZ w a' n' cap' ad' (lN B) cp' (fN B)):Calls Tryz.prog 18 #[.int .i64 o,.slice a n cap,.slice a' n' cap'] w fun r w'=>r= .returned (.tuple #[.bool (lU o n A n' B).1,.bool (lU o n A n' B).2])∧Below w.heap.size w w':=by
 have HC1:=aA (RH w o a n cap ad cp A h);have HC2:Hid (∀W,Below w.heap.size w W→Calls Tryz.prog 16 #[.int .i64 o,.slice a' n' cap'] W (kQ W (mV o n' B))):=fun W hW=>RH W o a' n' cap' ad' cp' B (h'.below hW)
 have hbd1:=CH (o:=o) (n:=n) (L:=A);have hbd2:=CH (o:=o) (n:=n') (L:=B)
 obtain⟨R1,hR1⟩:∃R,mV o n A=R:=⟨_,rfl⟩
 obtain⟨R2,hR2⟩:∃R,mV o n' B=R:=⟨_,rfl⟩
 have e0:lU o n A n' B=PF R1 R2:=by unfold lU;rw[hR1,hR2]
 rw[e0];rw[hR1]at HC1 hbd1;rw[hR2]at HC2 hbd2;clear h h' hR1 hR2 e0;go_enter Tryz.func18,Tryz.ntmps18;go_wp2_with fail;refine HC1.out.mono ?_;rintro r w1 ⟨qa,qc,qad,qcp,rfl,hb1,hO1⟩;have HB1:=aA hb1
 have HO1:=aA hO1;clear hb1 hO1;go_wp2_with fail;refine(HC2.out w1 HB1.out).mono ?_;rintro r w2 ⟨ya,yc,yad,ycp,rfl,hb2,hO2⟩;have HB2:=aA (aB HB1.out hb2)
 have HO3:=aA (HO1.out.below hb2);have HO2:=aA hO2
 clear hb2 hO2 HO1;rcases R1 with _|x
 ·clear hbd1 hbd2;go_wp2;refine bY (results_tmp2 rfl _ _ _) rfl ?_;exact⟨rfl,HB2.out⟩
 rcases R2 with _|y
 ·clear hbd1 hbd2;go_wp2;refine bY (results_tmp2 rfl _ _ _) rfl ?_;exact⟨rfl,HB2.out⟩
 simp only[IE,Option.isSome]at hbd1 hbd2 HO3 HO2⊢;have HE0:Hid (PF (some x) (some y)=(YG x.length (bC x) y.length (bC y),true)):=rfl
 obtain⟨n1,hn1⟩:∃k,x.length=k:=⟨_,rfl⟩
 obtain⟨n2,hn2⟩:∃k,y.length=k:=⟨_,rfl⟩
 obtain⟨X,hX⟩:∃X,bC x=X:=⟨_,rfl⟩
 obtain⟨Y,hY⟩:∃X,bC y=X:=⟨_,rfl⟩
 rw[hn1]at hbd1 HO3 HE0⊢;rw[hn2]at hbd2 HO2 HE0⊢;rw[hX]at HO3 HE0;rw[hY]at HO2 HE0;have hI1:(n1:Int)≤12:=by have:=hbd1.1;omega
 have hI2:(n2:Int)≤12:=by have:=hbd2.1;omega
 obtain⟨r,hr⟩:∃r,YG n1 X n2 Y=r:=⟨_,rfl⟩
 rw[hr]at HE0;have HR:=aA hr
 clear hn1 hn2 hX hY hbd1 hbd2 hr;by_cases hnn:n1=n2
 ·subst hnn;have hne:((n1:Int)!=(n1:Int))=false:=by simp
  go_wp2;go_loopw [12] (fun v wr=>∃i:Nat,i≤n1∧v= .int .i64 (i:Int)∧Below w2.heap.size w2 wr∧Hid (∀j,j<i→X j=Y j)) (fun v _=>n1-(intOf v).toNat);case atStart=>exact⟨0,Nat.zero_le _,rfl,bL _ _,fun j hj=>absurd hj (rT _)⟩
  case round=>
   obtain⟨i,hi,rfl,hB,HJ⟩:=hrel;by_cases hlt:i<n1
   ·rcases HO3.out.2.2.1 with h0|⟨b,off,rfl,hblt,hcl⟩
    ·omega
    rcases HO2.out.2.2.1 with h0|⟨b',off',rfl,hblt',hcl'⟩
    ·omega
    have hil:(i:Int)<(n1:Int):=by omega
    have hbr:b<wr.heap.size:=jY hblt hB.size;have hbr':b'<wr.heap.size:=jY hblt' hB.size
    have ne:=bJ.there wr;obtain⟨l,hl⟩:∃l,(X i).length=l:=⟨_,rfl⟩
    obtain⟨l',hl'⟩:∃l',(Y i).length=l':=⟨_,rfl⟩
    have g0:wr.cell? ⟨b,off+i,none⟩=some (.slice (qad i) l (qcp i)):=(hB.cell (p:=⟨b,off+i,none⟩) hblt).trans (by rw[←hl];exact hcl i hlt);have g1:wr.cell? ⟨b',off'+i,none⟩=some (.slice (yad i) l' (ycp i)):=(hB.cell (p:=⟨b',off'+i,none⟩) hblt').trans (by rw[←hl'];exact hcl' i hlt)
    have s0:∀u:bJ wr,u.1.cell? ⟨b,off+i,none⟩=some (.slice (qad i) l (qcp i)):=fun u=>(u.cell hbr).trans g0;have s1:∀u:bJ wr,u.1.cell? ⟨b',off'+i,none⟩=some (.slice (yad i) l' (ycp i)):=fun u=>(u.cell hbr').trans g1
    have HK:=aA ((HO3.out.2.2.2 i hlt).below hB);have HK':=aA ((HO2.out.2.2.2 i hlt).below hB)
    have HB:=aA hB;obtain⟨q,hq⟩:∃q,sq (X i) (Y i)=q:=⟨_,rfl⟩
    have HQ:=aA hq;have hcall:∀u:bJ wr,Calls Tryz.prog 56 #[.slice (qad i) l (qcp i),.slice (yad i) l' (ycp i)] u.1 fun r w'=>r= .returned (.bool q)∧Below u.1.heap.size u.1 w':=fun u=>by have:=Ek u.1 (qad i) (yad i) (X i).length (qcp i) (Y i).length (ycp i) (lf (X i)) (lf (Y i)) (HK.out.below u.2) (HK'.out.below u.2);rw[show aO (X i).length (lf (X i)) (Y i).length (lf (Y i))=q from hq,hl,hl']at this;exact this
    clear hcl hcl' hB g0 g1 hq hl hl';go_wp2_with fail;refine aG (by kernel_rfl) (by kernel_rfl) ?_;repeat(go_big_quiet_step (first|(go_at_call 56;exact aJ (hcall _))|fail))
    refine wpQuiet_nil ?_;rintro _ ⟨v,rfl⟩;have HV:=aA v.2
    clear s0 s1 ne hcall;cases q
    ·have hr:r=false:=by
      rw[←HR.out];refine yM (fun hh=>?_);have h1:=HQ.out
      rw[hh.2 i hlt,rH]at h1;cases h1
     subst hr;go_wp2;refine bY (results_tmp2 rfl _ _ _) rfl ?_;exact⟨by rw[HE0.out];rfl,aB HB2.out (aB HB.out HV.out)⟩
    ·have HE:=aA (DW.1 HQ.out);go_wp2;go_roundw
     case rel=>exact⟨i+1,by omega,by go_num,aB HB.out HV.out,fun j hj=>by
      by_cases e:j=i
      ·rw[e];exact HE.out
      ·exact HJ.out j (by omega)⟩
     case measure=>simp[intOf];omega
   ·have hnl:¬(i:Int)<(n1:Int):=by omega
    have hr:r=true:=by rw[←HR.out];exact AL.2 ⟨rfl,fun j hj=>HJ.out j (by omega)⟩
    subst hr;go_wp2;refine bY (results_tmp2 rfl _ _ _) rfl ?_;exact⟨by rw[HE0.out];rfl,aB HB2.out hB⟩
 ·have hne:((n1:Int)!=(n2:Int))=true:=by simp;omega
  have hr:r=false:=by rw[←HR.out];exact yM (fun hh=>hnn hh.1)
  subst hr;go_wp2;refine bY (results_tmp2 rfl _ _ _) rfl ?_;exact⟨by rw[HE0.out];rfl,HB2.out⟩
end Go.Proofs.YtdidlcjhodejjaaGreat
