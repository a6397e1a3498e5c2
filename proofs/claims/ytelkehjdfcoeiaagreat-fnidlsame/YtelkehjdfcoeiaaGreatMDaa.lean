/-
  More of the program's chapter 3: the number of a monomial, whether operators are the same, whether one has no slopes, so many times an operator.
-/
import Derived.Test.YtelkehjdfcoeiaaGreatMbu
set_option maxHeartbeats 8000000
set_option maxRecDepth 100000
namespace Go.Proofs.YtelkehjdfcoeiaaGreat
open Go.RowKit
set_option linter.unusedVariables false
theorem Aq (w:World) (a a':Option Addr) (n cap n' cap':Nat) (f f':Nat→T) (h:Rd w a n cap f) (h':Rd w a' n' cap' f'):Calls Tryz.prog 62 #[.slice a n cap,.slice a' n' cap'] w fun r w'=>r= .returned (.bool (aR n f n' f'))∧Below w.heap.size w w':=by
 obtain⟨h1,h2,h3⟩:=h;obtain⟨h1',h2',h3'⟩:=h';have hn:(n:Int)≤140737488351232:=by omega
 have hn':(n':Int)≤140737488351232:=by omega
 by_cases hnn:n=n'
 ·subst hnn;go_enter Tryz.func62,Tryz.ntmps62;go_wp2;go_loopw [5] (fun i wr=>∃(k:Nat),k≤n∧i= .int .i64 k∧Below w.heap.size w wr∧Hid (∀j,j<k→(f j).eqB (f' j)=true)) (fun i _=>n-(intOf i).toNat);case atStart=>exact⟨0,Nat.zero_le _,rfl,bG _ _,fun j hj=>absurd hj (tD _)⟩
  case round=>
   obtain⟨k,hk,rfl,hB,hok⟩:=hrel;by_cases hlt:k<n
   ·rcases h3 with h0|⟨b,off,rfl,hblt,hcl⟩
    ·omega
    rcases h3' with h0|⟨b',off',rfl,hblt',hcl'⟩
    ·omega
    have hkn:(k:Int)<(n:Int):=by omega
    obtain⟨g0,g1,g2,g3,g4⟩:=(hcl k hlt).below hB hblt;obtain⟨p0,p1,p2,p3,p4⟩:=(hcl' k hlt).below hB hblt';clear hcl hcl';by_cases hc:(f k).c=(f' k).c
    ·skip
     by_cases hx:(f k).m.x=(f' k).m.x
     ·skip
      by_cases hy:(f k).m.y=(f' k).m.y
      ·skip
       by_cases hd:(f k).m.d=(f' k).m.d
       ·skip
        by_cases he:(f k).m.e=(f' k).m.e
        ·skip
         have HN:Hid (∀j,j<k+1→(f j).eqB (f' j)=true):=fun j hj=>by
          by_cases hjk:j=k
          ·rw[hjk];simp[T.eqB,M.eqB,hc,hx,hy,hd,he]
          ·exact hok.out j (by omega)
         clear hok;go_wp2_with fail
         go_quiet (fail)
         go_wp2;go_roundw;case rel=>exact⟨k+1,by omega,by go_num,below_drewN hB _,HN⟩
         case measure=>simp[intOf];omega
        ·skip
         have HN:Hid (aR n f n f'=false):=by
          show _=_;simp only[aR,decide_eq_false_iff_not];intro hh;have:=hh.2 k hlt
          simp[T.eqB,M.eqB,he]at this
         clear hok;go_wp2_with fail
         go_quiet (fail)
         go_wp2;go_ret;exact⟨by rw[HN.out];rfl,below_drewN hB _⟩
       ·skip
        have HN:Hid (aR n f n f'=false):=by
         show _=_;simp only[aR,decide_eq_false_iff_not];intro hh;have:=hh.2 k hlt
         simp[T.eqB,M.eqB,hd]at this
        clear hok;go_wp2_with fail
        go_quiet (fail)
        go_wp2;go_ret;exact⟨by rw[HN.out];rfl,below_drewN hB _⟩
      ·skip
       have HN:Hid (aR n f n f'=false):=by
        show _=_;simp only[aR,decide_eq_false_iff_not];intro hh;have:=hh.2 k hlt
        simp[T.eqB,M.eqB,hy]at this
       clear hok;go_wp2_with fail
       go_quiet (fail)
       go_wp2;go_ret;exact⟨by rw[HN.out];rfl,below_drewN hB _⟩
     ·skip
      have HN:Hid (aR n f n f'=false):=by
       show _=_;simp only[aR,decide_eq_false_iff_not];intro hh;have:=hh.2 k hlt
       simp[T.eqB,M.eqB,hx]at this
      clear hok;go_wp2_with fail
      go_quiet (fail)
      go_wp2;go_ret;exact⟨by rw[HN.out];rfl,below_drewN hB _⟩
    ·skip
     have HN:Hid (aR n f n f'=false):=by
      show _=_;simp only[aR,decide_eq_false_iff_not];intro hh;have:=hh.2 k hlt
      simp[T.eqB,M.eqB,hc]at this
     clear hok;go_wp2_with fail
     go_quiet (fail)
     go_wp2;go_ret;exact⟨by rw[HN.out];rfl,below_drewN hB _⟩
   ·have HP:Hid (aR n f n f'=true):=by show _=_;simp only[aR,decide_eq_true_eq];exact⟨trivial,fun i hi=>hok.out i (by omega)⟩
    clear hok;go_wp2;go_ret;exact⟨by rw[HP.out];rfl,hB⟩
 ·have hp:aR n f n' f'=false:=by simp only[aR,decide_eq_false_iff_not];exact fun h=>hnn h.1
  rw[hp];have hb:((n:Int)!=(n':Int))=true:=by simp;omega
  clear hp;go_enter Tryz.func62,Tryz.ntmps62;go_wp2;go_ret;exact⟨rfl,bG _ _⟩
theorem MX (w:World) (a a':Option Addr) (n cap n' cap':Nat) (f f':Nat→T) (h:Rd w a n cap f) (h':Rd w a' n' cap' f'):Calls Tryz.prog 102 #[.slice a n cap,.slice a' n' cap'] w fun r w'=>r= .returned (.bool (aR n f n' f'))∧Below w.heap.size w w':=by
 obtain⟨h1,h2,h3⟩:=h;obtain⟨h1',h2',h3'⟩:=h';have hn:(n:Int)≤140737488351232:=by omega
 have hn':(n':Int)≤140737488351232:=by omega
 by_cases hnn:n=n'
 ·subst hnn;go_enter Tryz.func102,Tryz.ntmps102;go_wp2;go_loopw [13] (fun i wr=>∃(k:Nat),k≤n∧i= .int .i64 k∧Below w.heap.size w wr∧Hid (∀j,j<k→(f j).eqB (f' j)=true)) (fun i _=>n-(intOf i).toNat);case atStart=>exact⟨0,Nat.zero_le _,rfl,bG _ _,fun j hj=>absurd hj (tD _)⟩
  case round=>
   obtain⟨k,hk,rfl,hB,hok⟩:=hrel;by_cases hlt:k<n
   ·rcases h3 with h0|⟨b,off,rfl,hblt,hcl⟩
    ·omega
    rcases h3' with h0|⟨b',off',rfl,hblt',hcl'⟩
    ·omega
    have hkn:(k:Int)<(n:Int):=by omega
    obtain⟨g0,g1,g2,g3,g4⟩:=(hcl k hlt).below hB hblt;obtain⟨p0,p1,p2,p3,p4⟩:=(hcl' k hlt).below hB hblt';clear hcl hcl';by_cases hc:(f k).c=(f' k).c
    ·skip
     by_cases hx:(f k).m.x=(f' k).m.x
     ·skip
      by_cases hy:(f k).m.y=(f' k).m.y
      ·skip
       by_cases hd:(f k).m.d=(f' k).m.d
       ·skip
        by_cases he:(f k).m.e=(f' k).m.e
        ·skip
         have HN:Hid (∀j,j<k+1→(f j).eqB (f' j)=true):=fun j hj=>by
          by_cases hjk:j=k
          ·rw[hjk];simp[T.eqB,M.eqB,hc,hx,hy,hd,he]
          ·exact hok.out j (by omega)
         clear hok;go_wp2_with fail
         go_quiet (fail)
         go_wp2;go_roundw;case rel=>exact⟨k+1,by omega,by go_num,below_drewN hB _,HN⟩
         case measure=>simp[intOf];omega
        ·skip
         have HN:Hid (aR n f n f'=false):=by
          show _=_;simp only[aR,decide_eq_false_iff_not];intro hh;have:=hh.2 k hlt
          simp[T.eqB,M.eqB,he]at this
         clear hok;go_wp2_with fail
         go_quiet (fail)
         go_wp2;go_ret;exact⟨by rw[HN.out];rfl,below_drewN hB _⟩
       ·skip
        have HN:Hid (aR n f n f'=false):=by
         show _=_;simp only[aR,decide_eq_false_iff_not];intro hh;have:=hh.2 k hlt
         simp[T.eqB,M.eqB,hd]at this
        clear hok;go_wp2_with fail
        go_quiet (fail)
        go_wp2;go_ret;exact⟨by rw[HN.out];rfl,below_drewN hB _⟩
      ·skip
       have HN:Hid (aR n f n f'=false):=by
        show _=_;simp only[aR,decide_eq_false_iff_not];intro hh;have:=hh.2 k hlt
        simp[T.eqB,M.eqB,hy]at this
       clear hok;go_wp2_with fail
       go_quiet (fail)
       go_wp2;go_ret;exact⟨by rw[HN.out];rfl,below_drewN hB _⟩
     ·skip
      have HN:Hid (aR n f n f'=false):=by
       show _=_;simp only[aR,decide_eq_false_iff_not];intro hh;have:=hh.2 k hlt
       simp[T.eqB,M.eqB,hx]at this
      clear hok;go_wp2_with fail
      go_quiet (fail)
      go_wp2;go_ret;exact⟨by rw[HN.out];rfl,below_drewN hB _⟩
    ·skip
     have HN:Hid (aR n f n f'=false):=by
      show _=_;simp only[aR,decide_eq_false_iff_not];intro hh;have:=hh.2 k hlt
      simp[T.eqB,M.eqB,hc]at this
     clear hok;go_wp2_with fail
     go_quiet (fail)
     go_wp2;go_ret;exact⟨by rw[HN.out];rfl,below_drewN hB _⟩
   ·have HP:Hid (aR n f n f'=true):=by show _=_;simp only[aR,decide_eq_true_eq];exact⟨trivial,fun i hi=>hok.out i (by omega)⟩
    clear hok;go_wp2;go_ret;exact⟨by rw[HP.out];rfl,hB⟩
 ·have hp:aR n f n' f'=false:=by simp only[aR,decide_eq_false_iff_not];exact fun h=>hnn h.1
  rw[hp];have hb:((n:Int)!=(n':Int))=true:=by simp;omega
  clear hp;go_enter Tryz.func102,Tryz.ntmps102;go_wp2;go_ret;exact⟨rfl,bG _ _⟩
theorem Ap (w:World) (a a':Option Addr) (n cap n' cap':Nat) (f f':Nat→T) (h:Rd w a n cap f) (h':Rd w a' n' cap' f'):Calls Tryz.prog 61 #[.slice a n cap,.slice a' n' cap'] w fun r w'=>r= .returned (.bool (aR n f n' f'))∧Below w.heap.size w w':=by
 have H:=aA h;have H':=aA h'
 clear h h';go_enter Tryz.func61,Tryz.ntmps61;go_wp2_with fail;refine(MX _ _ _ _ _ _ _ f f' H.out H'.out).mono ?_;rintro r w1 ⟨rfl,hb⟩;go_wp2;go_ret;exact⟨rfl,hb⟩
variable {w:World} {a b:Option Addr} {ca cb:Nat} {L K:List T}
theorem Hb (ha:RL w a ca L) (hb:RL w b cb K):Calls Tryz.prog 61 #[.slice a L.length ca,.slice b K.length cb] w (NX w (.bool (sq L K))):=Ap w a b L.length ca K.length cb (lf L) (lf K) ha hb
end Go.Proofs.YtelkehjdfcoeiaaGreat
namespace Go.Proofs.YtelkehjdfcoeiaaGreat
open Go.RowKit Go.Deep Go.Joins
set_option linter.unusedVariables false
theorem GM {l:List (List T)} {i:Nat} (h:l.length≤i):bY l i=[]:=by
 show l.getD i []=[]
 rw[List.getD_eq_getElem?_getD,List.getElem?_eq_none h];rfl
theorem YW {o:Int} {n:Nat} {L:Nat→List T}:(wU (aT o n L)).length≤12∧∀i,(bY (wU (aT o n L)) i).length≤400:=by
 cases h:aT o n L with
 |none=>exact⟨Nat.zero_le _,fun i=>by rw[GM (Nat.zero_le _)];exact Nat.zero_le _⟩
 |some l=>
  have hL:=gM h;refine⟨hL.le,fun i=>?_⟩;by_cases hi:i<l.length
  ·exact(aD (hL.ok _ (eE hi)).1).1
  ·show(bY l i).length≤400;rw[GM (Nat.le_of_not_lt hi)];exact Nat.zero_le _
theorem KO {o:Int} {n:Nat} {L:Nat→List T}:(wU (bQ o n L)).length≤12∧∀i,(bY (wU (bQ o n L)) i).length≤400:=by
 unfold bQ;split
 ·exact YW
 ·exact⟨Nat.zero_le _,fun i=>by rw[GM (Nat.zero_le _)];exact Nat.zero_le _⟩
set_option linter.unusedSimpArgs false
def MS:Option (List (List T))→Option (List (List T))→Bool×Bool
 |some x,some y=>(GO x.length (bY x) y.length (bY y),true)
 |_,_=>(false,false)
def jB (o:Int) (n:Nat) (A:Nat→List T) (n':Nat) (B:Nat→List T):Bool×Bool:=MS (bQ o n A) (bQ o n' B)
theorem YC:∀args w,(callFunc 61 args).run Tryz.prog w= .ok (.enter 61 args) w:=enters_of Tryz.func61 (by kernel_rfl) rfl
theorem Ep (w:World) (a a':Option Addr) (n cap n' cap':Nat) (ad ad':Nat→Option Addr) (cp cp':Nat→Nat) (L L':Nat→List T) (h:eQ w a n cap ad (lN L) cp (fN L)) (h':eQ w a' n' cap' ad' (lN L') cp' (fN L')):Calls Tryz.prog 60 #[.slice a n cap,.slice a' n' cap',.func (.func 61) #[] #[]] w (NX w (.bool (GO n L n' L'))):=by
 have hn:(n:Int)≤140737488351232:=by have:=h.2.1;omega
 have hn':(n':Int)≤140737488351232:=by have:=h'.2.1;omega
 obtain⟨r,hr⟩:∃r,GO n L n' L'=r:=⟨_,rfl⟩
 rw[hr];have HR:=aA hr
 have HH:=aA h;have HH':=aA h'
 clear h h' hr;unfold NX;by_cases hnn:n=n'
 ·subst hnn;have hne:((n:Int)!=(n:Int))=false:=by simp
  go_enter Tryz.func60,Tryz.ntmps60;go_wp2;go_loopw [17] (fun v wr=>∃i:Nat,i≤n∧v= .int .i64 (i:Int)∧Below w.heap.size w wr∧Hid (∀j,j<i→L j=L' j)) (fun v _=>n-(intOf v).toNat);case atStart=>exact⟨0,Nat.zero_le _,rfl,bG _ _,fun j hj=>absurd hj (tD _)⟩
  case round=>
   obtain⟨i,hi,rfl,hB,HJ⟩:=hrel;by_cases hlt:i<n
   ·rcases HH.out.2.2.1 with h0|⟨b,off,rfl,hblt,hcl⟩
    ·omega
    rcases HH'.out.2.2.1 with h0|⟨b',off',rfl,hblt',hcl'⟩
    ·omega
    have hil:(i:Int)<(n:Int):=by omega
    obtain⟨l,hl⟩:∃l,(L i).length=l:=⟨_,rfl⟩
    obtain⟨l',hl'⟩:∃l',(L' i).length=l':=⟨_,rfl⟩
    have g0:wr.cell? ⟨b,off+i,none⟩=some (.slice (ad i) l (cp i)):=(hB.cell (p:=⟨b,off+i,none⟩) hblt).trans (by rw[←hl];exact hcl i hlt);have g1:wr.cell? ⟨b',off'+i,none⟩=some (.slice (ad' i) l' (cp' i)):=(hB.cell (p:=⟨b',off'+i,none⟩) hblt').trans (by rw[←hl'];exact hcl' i hlt)
    have HK:=aA ((HH.out.2.2.2 i hlt).below hB);have HK':=aA ((HH'.out.2.2.2 i hlt).below hB)
    have HB:=aA hB;obtain⟨q,hq⟩:∃q,sq (L i) (L' i)=q:=⟨_,rfl⟩
    have HQ:=aA hq;have HCA:Hid (Calls Tryz.prog 61 #[.slice (ad i) l (cp i),.slice (ad' i) l' (cp' i)] wr fun r w'=>r= .returned (.bool q)∧Below wr.heap.size wr w'):=by have:=Hb (w:=wr) (a:=ad i) (ca:=cp i) (L:=L i) (b:=ad' i) (cb:=cp' i) (K:=L' i) HK.out HK'.out;rw[hq,hl,hl']at this;exact this
    have eg:=YC;clear hcl hcl' hB hq hl hl';cases q
    ·have hr:r=false:=by
      rw[←HR.out];refine xM (fun hh=>?_);have h1:=HQ.out
      rw[hh.2 i hlt,wH]at h1;cases h1
     subst hr;go_wp2_with (go_at_fn 61;refine HCA.out.mono ?_;rintro e w2 ⟨rfl,hb2⟩;have HV:=aA hb2;clear hb2);go_ret;exact⟨rfl,aB HB.out HV.out⟩
    ·have HE:=aA (CK.1 HQ.out);go_wp2_with (go_at_fn 61;refine HCA.out.mono ?_;rintro e w2 ⟨rfl,hb2⟩;have HV:=aA hb2;clear hb2);go_roundw
     case rel=>exact⟨i+1,by omega,by go_num,aB HB.out HV.out,fun j hj=>by
      by_cases e:j=i
      ·rw[e];exact HE.out
      ·exact HJ.out j (by omega)⟩
     case measure=>simp[intOf];omega
   ·have hnl:¬(i:Int)<(n:Int):=by omega
    have hr:r=true:=by rw[←HR.out];exact oF.2 ⟨rfl,fun j hj=>HJ.out j (by omega)⟩
    subst hr;go_wp2;go_ret;exact⟨rfl,hB⟩
 ·have hne:((n:Int)!=(n':Int))=true:=by simp;omega
  have hr:r=false:=by rw[←HR.out];exact xM (fun hh=>hnn hh.1)
  subst hr;go_enter Tryz.func60,Tryz.ntmps60;go_wp2;go_ret;exact⟨rfl,bG _ _⟩
theorem AY (w:World) (o:Int) (a a':Option Addr) (n cap n' cap':Nat) (ad ad':Nat→Option Addr) (cp cp':Nat→Nat) (A B:Nat→List T) (h:eQ w a n cap ad (lN A) cp (fN A)) (h':eQ w a' n' cap' ad' (lN B) cp' (fN B)):Calls Tryz.prog 25 #[.int .i64 o,.slice a n cap,.slice a' n' cap'] w fun r w'=>r= .returned (.tuple #[.bool (jB o n A n' B).1,.bool (jB o n A n' B).2])∧Below w.heap.size w w':=by
 have HC1:=aA (OP w o a n cap ad cp A h);have HC2:Hid (∀W,Below w.heap.size w W→Calls Tryz.prog 17 #[.int .i64 o,.slice a' n' cap'] W (qW W (bQ o n' B))):=fun W hW=>OP W o a' n' cap' ad' cp' B (h'.below hW)
 obtain⟨R1,hR1⟩:∃R,bQ o n A=R:=⟨_,rfl⟩
 obtain⟨R2,hR2⟩:∃R,bQ o n' B=R:=⟨_,rfl⟩
 have e0:jB o n A n' B=MS R1 R2:=by unfold jB;rw[hR1,hR2]
 rw[e0];rw[hR1]at HC1;rw[hR2]at HC2;clear h h' hR1 hR2 e0;go_enter Tryz.func25,Tryz.ntmps25;go_wp2_with fail;refine HC1.out.mono ?_;rintro r w1 ⟨qa,qc,qad,qcp,Rb,Bb,rfl,hb1,hO1⟩;have HB1:=aA hb1
 have HO1:=aA hO1.rd;clear hb1 hO1;go_wp2_with fail;refine(HC2.out w1 HB1.out).mono ?_;rintro r w2 ⟨ya,yc,yad,ycp,Rb2,Bb2,rfl,hb2,hO2⟩;have HB2:=aA (aB HB1.out hb2)
 have HO3:=aA (HO1.out.below hb2);have HO2:=aA hO2.rd
 clear hb2 hO2 HO1;rcases R1 with _|x
 ·go_wp2;refine cD (results_tmp2 rfl _ _ _) rfl ?_;exact⟨rfl,HB2.out⟩
 ·rcases R2 with _|y
  ·go_wp2;refine cD (results_tmp2 rfl _ _ _) rfl ?_;exact⟨rfl,HB2.out⟩
  ·have HCE:Hid (Calls Tryz.prog 60 #[.slice qa x.length qc,.slice ya y.length yc,.func (.func 61) #[] #[]] w2 (NX w2 (.bool (GO x.length (bY x) y.length (bY y))))):=Ep w2 qa ya x.length qc y.length yc _ _ _ _ (bY x) (bY y) HO3.out HO2.out;simp only[wU,Option.isSome,MS];go_wp2_with fail;refine HCE.out.mono ?_;rintro r w3 ⟨rfl,hb3⟩;have HB3:=aA (aB HB2.out hb3)
   clear hb3;go_wp2;refine cD (results_tmp2 rfl _ _ _) rfl ?_;exact⟨rfl,HB3.out⟩
theorem YO (w:World) (o:Int) (a a':Option Addr) (n cap n' cap':Nat) (ad ad':Nat→Option Addr) (cp cp':Nat→Nat) (A B:Nat→List T) (h:eQ w a n cap ad (lN A) cp (fN A)) (h':eQ w a' n' cap' ad' (lN B) cp' (fN B)):Calls Tryz.prog 26 #[.int .i64 o,.slice a n cap,.slice a' n' cap'] w fun r w'=>r= .returned (.tuple #[.bool (jB o n A n' B).1,.bool (jB o n A n' B).2])∧Below w.heap.size w w':=by
 have HC1:=aA (OQ w o a n cap ad cp A h);have HC2:Hid (∀W,Below w.heap.size w W→Calls Tryz.prog 18 #[.int .i64 o,.slice a' n' cap'] W (qX W (bQ o n' B))):=fun W hW=>OQ W o a' n' cap' ad' cp' B (h'.below hW)
 have hbd1:=KO (o:=o) (n:=n) (L:=A);have hbd2:=KO (o:=o) (n:=n') (L:=B)
 obtain⟨R1,hR1⟩:∃R,bQ o n A=R:=⟨_,rfl⟩
 obtain⟨R2,hR2⟩:∃R,bQ o n' B=R:=⟨_,rfl⟩
 have e0:jB o n A n' B=MS R1 R2:=by unfold jB;rw[hR1,hR2]
 rw[e0];rw[hR1]at HC1 hbd1;rw[hR2]at HC2 hbd2;clear h h' hR1 hR2 e0;go_enter Tryz.func26,Tryz.ntmps26;go_wp2_with fail;refine HC1.out.mono ?_;rintro r w1 ⟨qa,qc,qad,qcp,rfl,hb1,hO1⟩;have HB1:=aA hb1
 have HO1:=aA hO1;clear hb1 hO1;go_wp2_with fail;refine(HC2.out w1 HB1.out).mono ?_;rintro r w2 ⟨ya,yc,yad,ycp,rfl,hb2,hO2⟩;have HB2:=aA (aB HB1.out hb2)
 have HO3:=aA (HO1.out.below hb2);have HO2:=aA hO2
 clear hb2 hO2 HO1;rcases R1 with _|x
 ·clear hbd1 hbd2;go_wp2;refine cD (results_tmp2 rfl _ _ _) rfl ?_;exact⟨rfl,HB2.out⟩
 rcases R2 with _|y
 ·clear hbd1 hbd2;go_wp2;refine cD (results_tmp2 rfl _ _ _) rfl ?_;exact⟨rfl,HB2.out⟩
 simp only[wU,Option.isSome]at hbd1 hbd2 HO3 HO2⊢;have HE0:Hid (MS (some x) (some y)=(GO x.length (bY x) y.length (bY y),true)):=rfl
 obtain⟨n1,hn1⟩:∃k,x.length=k:=⟨_,rfl⟩
 obtain⟨n2,hn2⟩:∃k,y.length=k:=⟨_,rfl⟩
 obtain⟨X,hX⟩:∃X,bY x=X:=⟨_,rfl⟩
 obtain⟨Y,hY⟩:∃X,bY y=X:=⟨_,rfl⟩
 rw[hn1]at hbd1 HO3 HE0⊢;rw[hn2]at hbd2 HO2 HE0⊢;rw[hX]at HO3 HE0;rw[hY]at HO2 HE0;have hI1:(n1:Int)≤12:=by have:=hbd1.1;omega
 have hI2:(n2:Int)≤12:=by have:=hbd2.1;omega
 obtain⟨r,hr⟩:∃r,GO n1 X n2 Y=r:=⟨_,rfl⟩
 rw[hr]at HE0;have HR:=aA hr
 clear hn1 hn2 hX hY hbd1 hbd2 hr;by_cases hnn:n1=n2
 ·subst hnn;have hne:((n1:Int)!=(n1:Int))=false:=by simp
  go_wp2;go_loopw [12] (fun v wr=>∃i:Nat,i≤n1∧v= .int .i64 (i:Int)∧Below w2.heap.size w2 wr∧Hid (∀j,j<i→X j=Y j)) (fun v _=>n1-(intOf v).toNat);case atStart=>exact⟨0,Nat.zero_le _,rfl,bG _ _,fun j hj=>absurd hj (tD _)⟩
  case round=>
   obtain⟨i,hi,rfl,hB,HJ⟩:=hrel;by_cases hlt:i<n1
   ·rcases HO3.out.2.2.1 with h0|⟨b,off,rfl,hblt,hcl⟩
    ·omega
    rcases HO2.out.2.2.1 with h0|⟨b',off',rfl,hblt',hcl'⟩
    ·omega
    have hil:(i:Int)<(n1:Int):=by omega
    have hbr:b<wr.heap.size:=lB hblt hB.size;have hbr':b'<wr.heap.size:=lB hblt' hB.size
    have ne:=bZ.there wr;obtain⟨l,hl⟩:∃l,(X i).length=l:=⟨_,rfl⟩
    obtain⟨l',hl'⟩:∃l',(Y i).length=l':=⟨_,rfl⟩
    have g0:wr.cell? ⟨b,off+i,none⟩=some (.slice (qad i) l (qcp i)):=(hB.cell (p:=⟨b,off+i,none⟩) hblt).trans (by rw[←hl];exact hcl i hlt);have g1:wr.cell? ⟨b',off'+i,none⟩=some (.slice (yad i) l' (ycp i)):=(hB.cell (p:=⟨b',off'+i,none⟩) hblt').trans (by rw[←hl'];exact hcl' i hlt)
    have s0:∀u:bZ wr,u.1.cell? ⟨b,off+i,none⟩=some (.slice (qad i) l (qcp i)):=fun u=>(u.cell hbr).trans g0;have s1:∀u:bZ wr,u.1.cell? ⟨b',off'+i,none⟩=some (.slice (yad i) l' (ycp i)):=fun u=>(u.cell hbr').trans g1
    have HK:=aA ((HO3.out.2.2.2 i hlt).below hB);have HK':=aA ((HO2.out.2.2.2 i hlt).below hB)
    have HB:=aA hB;obtain⟨q,hq⟩:∃q,sq (X i) (Y i)=q:=⟨_,rfl⟩
    have HQ:=aA hq;have hcall:∀u:bZ wr,Calls Tryz.prog 62 #[.slice (qad i) l (qcp i),.slice (yad i) l' (ycp i)] u.1 fun r w'=>r= .returned (.bool q)∧Below u.1.heap.size u.1 w':=fun u=>by have:=Aq u.1 (qad i) (yad i) (X i).length (qcp i) (Y i).length (ycp i) (lf (X i)) (lf (Y i)) (HK.out.below u.2) (HK'.out.below u.2);rw[show aR (X i).length (lf (X i)) (Y i).length (lf (Y i))=q from hq,hl,hl']at this;exact this
    clear hcl hcl' hB g0 g1 hq hl hl';go_wp2_with fail;refine aG (by kernel_rfl) (by kernel_rfl) ?_;repeat(go_big_quiet_step (first|(go_at_call 62;exact aJ (hcall _))|fail))
    refine wpQuiet_nil ?_;rintro _ ⟨v,rfl⟩;have HV:=aA v.2
    clear s0 s1 ne hcall;cases q
    ·have hr:r=false:=by
      rw[←HR.out];refine xM (fun hh=>?_);have h1:=HQ.out
      rw[hh.2 i hlt,wH]at h1;cases h1
     subst hr;go_wp2;refine cD (results_tmp2 rfl _ _ _) rfl ?_;exact⟨by rw[HE0.out];rfl,aB HB2.out (aB HB.out HV.out)⟩
    ·have HE:=aA (CK.1 HQ.out);go_wp2;go_roundw
     case rel=>exact⟨i+1,by omega,by go_num,aB HB.out HV.out,fun j hj=>by
      by_cases e:j=i
      ·rw[e];exact HE.out
      ·exact HJ.out j (by omega)⟩
     case measure=>simp[intOf];omega
   ·have hnl:¬(i:Int)<(n1:Int):=by omega
    have hr:r=true:=by rw[←HR.out];exact oF.2 ⟨rfl,fun j hj=>HJ.out j (by omega)⟩
    subst hr;go_wp2;refine cD (results_tmp2 rfl _ _ _) rfl ?_;exact⟨by rw[HE0.out];rfl,aB HB2.out hB⟩
 ·have hne:((n1:Int)!=(n2:Int))=true:=by simp;omega
  have hr:r=false:=by rw[←HR.out];exact xM (fun hh=>hnn hh.1)
  subst hr;go_wp2;refine cD (results_tmp2 rfl _ _ _) rfl ?_;exact⟨by rw[HE0.out];rfl,HB2.out⟩
theorem VH (w:World) (B p:Nat) (most n:Int) (h:kO w B p) (m1:1≤most) (m2:most≤4) (hn:1≤n) (hn':n≤1000) (hp:p≤4000):
 Calls Tryz.prog 47 #[.pointer (some ⟨B,0,none⟩),.int .i64 most,.int .i64 n] w fun r w'=>∃(v:Value) (LS:List Value) (q:Nat),r= .returned v∧w'.ownsRow w.heap.size 41 1 v LS.length LS∧LS.length≤5∧(∀e∈LS,El w' w.heap.size v.ownBlock e)∧q≤p+1000∧kO w' B q∧aF B w w':=KU w B p most n h m1 m2 hn hn' hp
def Ov (w:World) (e:Ending) (w':World):Prop:=∃(o:Int) (a:Option Addr) (n c:Nat) (ad:Nat→Option Addr) (cp:Nat→Nat) (L:Nat→List T) (a':Option Addr) (n' c':Nat) (ad':Nat→Option Addr) (cp':Nat→Nat) (L':Nat→List T),e= .returned (.tuple #[.int .i64 o,.slice a n c,.slice a' n' c'])∧eQ w' a n c ad (lN L) cp (fN L)∧n≤5∧eQ w' a' n' c' ad' (lN L') cp' (fN L')∧n'≤5∧Below w.heap.size w w'
theorem Ju {w u:World} {k:Nat} (most:Int) (h:A1 w u k) (m1:1≤most) (m2:most≤4) (hk:k≤3900):Calls Tryz.prog 47 #[.pointer (some ⟨w.heap.size,0,none⟩),.int .i64 most,.int .i64 24] u fun e u'=>∃a n c ad cp L,e= .returned (.slice a n c)∧n≤5∧qO (fun b=>b≠w.heap.size) u' a n c ad cp L∧A1 w u' (k+1000)∧aF w.heap.size u u':=by obtain⟨p,h1,h2,h3⟩:=h;refine(VH u _ p most 24 h2 m1 m2 (by omega) (by omega) (by omega)).mono ?_;rintro e u' ⟨v,LS,q,rfl,ho,hl,hE,hq,r,s⟩;obtain⟨a,c,ad,cp,L,rfl,hr⟩:=MR (B:=w.heap.size) ho hE (by omega) h2.lt h2.lt;exact⟨a,_,c,ad,cp,L,rfl,hl,hr,⟨q,by omega,r,s.below h3 (Nat.le_refl _) (Nat.le_of_lt h2.lt)⟩,s⟩
structure zY (B lo:Nat) (w:World) (tv:Value) (es:List E):Prop where
 e:cT lo w tv es
 far:∀x∈es,x.p.length=0∨∀b off,x.a=some ⟨b,off,none⟩→b≠B
theorem zY.beside {B lo:Nat} {w w':World} {tv:Value} {es:List E} (h:zY B lo w tv es) (hl:B<lo) (hb:aF B w w'):zY B lo w' tv es:=by refine⟨⟨bO h.e.row hb hl,fun x hx=>⟨(h.e.el x hx).1.beside hb (h.far x hx),(h.e.el x hx).2⟩⟩,h.far⟩
theorem zY.below {B lo:Nat} {w w':World} {tv:Value} {es:List E} (h:zY B lo w tv es) (hb:Below w.heap.size w w'):zY B lo w' tv es:=⟨h.e.below hb,h.far⟩
theorem Lu {lo:Nat} {w w':World} (h:Below lo w w'):Fr (fun b=>lo≤b) w w':=⟨h.os,h.tape,h.output,h.size,fun k hk hn=>h.block k (Nat.lt_of_not_le hn)⟩
theorem JS (w:World) (a:Option Addr) (len cap:Nat) (h:QC w a len cap):Calls Tryz.prog 24 #[.slice a len cap] w (Ov w):=by
 go_enter Tryz.func24,Tryz.ntmps24;go_wp2_with fail;refine(BT _ _ _ _ h).mono ?_;rintro e w1 ⟨rfl,hR1,b1⟩;have HA0:Hid (A1 w w1 0):=⟨0,Nat.le_refl _,hR1,b1⟩
 clear h hR1 b1;go_wp2_with fail;refine(Mj HA0.out (by omega)).mono ?_;rintro e w2 ⟨o,rfl,hA,_⟩;have HA2:=aA hA
 clear hA HA0;go_wp2_with fail;refine(Ik 2 HA2.out (by omega) (by omega) (by omega)).mono ?_;rintro e w3 ⟨la,n,lc,lad,lcp,L,rfl,hn,hr,hA,_⟩;have HR3:=aA hr
 have HA3:=aA hA;have hnI:(n:Int)≤5:=by omega
 clear hr hA HA2;go_wp2_with fail;refine(An 2 HA3.out (by omega) (by omega) (by omega)).mono ?_;rintro e w4 ⟨x,rfl,x0,x1,hA,hB⟩;have HA4:=aA hA
 have HR4:=aA (HR3.out.beside hB);clear hA hB HA3 HR3;have other:∀(W:World),A1 w W 1003→qO (fun b=>b≠w.heap.size) W la n lc lad lcp L→Calls Tryz.prog 47 #[.pointer (some ⟨w.heap.size,0,none⟩),.int .i64 2,.int .i64 24] W fun e u'=>∃a' n' c' ad' cp' L',e= .returned (.slice a' n' c')∧n'≤5∧eQ u' a' n' c' ad' (lN L') cp' (fN L')∧eQ u' la n lc lad (lN L) lcp (fN L)∧Below w.heap.size w u':=fun W hA hR=>by refine(Ju 2 hA (by omega) (by omega) (by omega)).mono ?_;rintro e u' ⟨a',n',c',ad',cp',L',rfl,h1,h2,h3,h4⟩;exact⟨a',n',c',ad',cp',L',rfl,h1,zS h2,zS (hR.beside h4),h3.bel⟩
 have OTH:=aA other;clear other;by_cases hx:x=0
 ·subst hx;go_wp2_with fail;refine(OTH.out w4 (by obtain⟨p,h1,h2,h3⟩:=HA4.out;exact⟨p,by omega,h2,h3⟩) HR4.out).mono ?_;rintro e w5 ⟨a',n',c',ad',cp',L',rfl,hn',h1,h2,h3⟩;have H1:=aA h1
  have H2:=aA h2;have H3:=aA h3
  clear h1 h2 h3;go_wp2;refine cD (results_tmp3 rfl _ _ _) rfl ?_;exact⟨o,la,n,lc,lad,lcp,L,a',n',c',ad',cp',L',rfl,H2.out,hn,H1.out,hn',H3.out⟩
 have hxb:(x==0)=false:=beq_eq_false_iff_ne.2 hx;have hxd:decide (x=0)=false:=decide_eq_false hx
 obtain⟨ok,hok⟩:∃ok,bB n (lN L) (fN L)=ok:=⟨_,rfl⟩
 have HOK:=aA hok;have hcl:=uB w4 la n lc lad (lN L) lcp (fN L) (zS HR4.out)
 rw[hok]at hcl;have HCL:=aA hcl
 clear hok hcl;go_wp2_with fail;refine HCL.out.mono ?_;rintro e w5 ⟨rfl,hb5⟩;have HA5:Hid (A1 w w5 1003):=by
  have h9:A1 w w4 1003:=by obtain⟨p,h1,h2,h3⟩:=HA4.out;exact⟨p,by omega,h2,h3⟩
  exact h9.below hb5
 have HR5:=aA (HR4.out.below hb5);clear hb5 HCL HA4 HR4;cases ok
 ·go_wp2_with fail;refine(OTH.out w5 HA5.out HR5.out).mono ?_;rintro e w6 ⟨a',n',c',ad',cp',L',rfl,hn',h1,h2,h3⟩;have H1:=aA h1
  have H2:=aA h2;have H3:=aA h3
  clear h1 h2 h3;go_wp2;refine cD (results_tmp3 rfl _ _ _) rfl ?_;exact⟨o,la,n,lc,lad,lcp,L,a',n',c',ad',cp',L',rfl,H2.out,hn,H1.out,hn',H3.out⟩
 by_cases hn0:n=0
 ·subst hn0;go_wp2_with fail;refine(OTH.out w5 HA5.out HR5.out).mono ?_;rintro e w6 ⟨a',n',c',ad',cp',L',rfl,hn',h1,h2,h3⟩;have H1:=aA h1
  have H2:=aA h2;have H3:=aA h3
  clear h1 h2 h3;go_wp2;refine cD (results_tmp3 rfl _ _ _) rfl ?_;exact⟨o,la,0,lc,lad,lcp,L,a',n',c',ad',cp',L',rfl,H2.out,hn,H1.out,hn',H3.out⟩
 have hn0b:((n:Int)==0)=false:=beq_eq_false_iff_ne.2 (by omega);have HLO:=aA (aQ HOK.out).2
 have hBlt:w.heap.size<w5.heap.size:=HA5.out.lt;have HX0:Hid (zY w.heap.size w5.heap.size (w5.alloc (.cells #[] 41)) (.slice (some ⟨w5.heap.size,0,none⟩) 0 0) []):=⟨cT.start (Nat.le_refl _),fun e he=>by cases he⟩
 have HAX:Hid (A1 w (w5.alloc (.cells #[] 41)) 1003):=HA5.out.alloc _;have HRX:=aA ((HR5.out.mono (N':=fun b=>b≠w.heap.size∧b<w5.heap.size) (fun b hb hn=>⟨hn,hb⟩)).below (aC w5 (.cells #[] 41)))
 have HBX:=aA (aC w5 (.cells #[] 41));have hwn:IntKind.i64.wrap ((n:Int)-1)=(n:Int)-1:=by rw[IntKind.wrap_i64];omega
 clear HA5 OTH;go_wp2;go_loopw [8,9] (fun tv ii wr=>∃(j k:Nat) (es:List E),j+es.length=n∧ii= .int .i64 ((j:Int)-1)∧k+j≤1003+n∧A1 w wr k∧qO (fun b=>b≠w.heap.size∧b<w5.heap.size) wr la n lc lad lcp L∧zY w.heap.size w5.heap.size wr tv es∧w5.heap.size≤wr.heap.size) (fun _ ii _=>(intOf ii+1).toNat);case atStart=>exact⟨n,1003,[],rfl,rfl,by omega,HAX.out,HRX.out,HX0.out,HBX.out.size⟩
 case round=>
  obtain⟨j,k,es,hj,rfl,hk,hA,hR,hX,hsz⟩:=hrel;have HA:=aA hA
  have HR:=aA hR;have HX:=aA hX
  by_cases hj0:0<j
  ·obtain⟨i,rfl⟩:∃i,j=i+1:=⟨j-1,by omega⟩
   have ei:((i+1:Nat):Int)-1=(i:Int):=by omega
   rw[ei];have hin:i<n:=by omega
   have hi0:(0:Int)≤(i:Int):=by omega
   have hinI:(i:Int)<(n:Int):=by omega
   obtain⟨lb,off,rfl,hlb,hcl⟩:=hR.1.2.2.1.resolve_left hn0;obtain⟨l,hl⟩:∃l,(L i).length=l:=⟨_,rfl⟩
   have KC:Hid (∀W,qO (fun b=>b≠w.heap.size∧b<w5.heap.size) W (some ⟨lb,off,none⟩) n lc lad lcp L→W.cell? ⟨lb,off+i,none⟩=some (.slice (lad i) l (lcp i))):=fun W hW=>by obtain⟨b',off',e,_,hc⟩:=hW.1.2.2.1.resolve_left hn0;cases e;rw[←hl];exact hc i hin
   obtain⟨hl0,hpk⟩:=HLO.out i hin;have hokL:cF (L i)=true:=hpk
   have hl4:l≤400:=by rw[←hl];exact(aD hokL).1
   have hcf:=(aD hokL).2.2;have HSC:Hid (∀(W:World) (y:Int),1≤y→y≤100→qO (fun b=>b≠w.heap.size∧b<w5.heap.size) W (some ⟨lb,off,none⟩) n lc lad lcp L→Calls Tryz.prog 59 #[.int .i64 y,.slice (lad i) l (lcp i)] W fun r w'=>∃a' c' Y,r= .returned (.slice a' Y.length c')∧Y.length=l∧Below W.heap.size W w'∧jG W.heap.size w' a' c' Y):=fun W y y0 y1 hW=>by
    rw[←hl];refine(BI W y (lad i) (L i).length (lcp i) (lf (L i)) (hW.1.2.2.2 i hin) (by omega) y1 (by omega) (fun t ht=>by have:=(hcf _ (kU ht));omega)).mono ?_;rintro r w' ⟨v,rfl,hb,hown⟩;rw[if_neg (show ¬y=0 by omega)]at hown;have e:IH y (lf (L i)) (L i).length=iS y (L i):=rfl
    rw[e]at hown;have e2:=eG y (L i)
    rw[←e2]at hown;obtain⟨a',c',rfl,hO⟩:=aI hown (by omega);exact⟨a',c',_,rfl,e2,hb,hO⟩
   have hn1:es.length+1≤100:=by omega
   have HJ:=aA hj;have bd:Below wr.heap.size wr wr.drew:=(bG _ wr).drew
   have HAD:=aA (hA.below bd);have HRD:=aA (hR.below bd)
   have HXD:=aA (hX.below bd);have hS:wr.drew.cell? ⟨lb,off+i,none⟩=some (.slice (lad i) l (lcp i)):=KC.out _ HRD.out
   have HPK:=aA (An 100 HAD.out (by omega) (by omega) (by omega));have hszD:w5.heap.size≤wr.drew.heap.size:=jQ hsz bd.size
   have hwi:IntKind.i64.wrap ((i:Int)-1)=(i:Int)-1:=by rw[IntKind.wrap_i64];omega
   have HPU:Hid (∀(v1 v2:World) (a':Option Addr) (c':Nat) (Y:List T),zY w.heap.size w5.heap.size v1 u8 es→w5.heap.size≤v1.heap.size→Below v1.heap.size v1 v2→jG v1.heap.size v2 a' c' Y→zY w.heap.size w5.heap.size (v2.alloc (.cells #[.slice a' Y.length c'] 41)) u8 es∧mA (v2.alloc (.cells #[.slice a' Y.length c'] 41)) (some ⟨v2.heap.size,0,none⟩) 1 [(⟨a',c',Y⟩:E)]∧(∀e∈[(⟨a',c',Y⟩:E)],lW (v2.alloc (.cells #[.slice a' Y.length c'] 41)) u8.ownBlock e)∧w5.heap.size≤(v2.alloc (.cells #[.slice a' Y.length c'] 41)).heap.size∧(Y.length=0∨∀b off,a'=some ⟨b,off,none⟩→b≠w.heap.size)):=fun v1 v2 a' c' Y hX1 hs1 hb2 hO2=>by
    have bx:=aC v2 (.cells #[.slice a' Y.length c'] 41);refine⟨(hX1.below hb2).below bx,mA.box (W:=v2) (e:=(⟨a',c',Y⟩:E)) hO2.1,fun e he=>?_,jQ hs1 (jQ hb2.size bx.size),hO2.2.2.imp id (fun⟨g,off,e,hg⟩ b' off' e'=>?_)⟩
    ·rw[List.mem_singleton.1 he];refine⟨Rd.below hO2.1 bx,hO2.2.2.imp id (fun⟨g,off,e,hg⟩ b' off' e' hk=>?_)⟩;have e2:a'=some ⟨b',off',none⟩:=e'
     rw[e]at e2;cases e2;have:=(hX1.e.row.lt _ hk).2
     omega
    ·rw[e]at e';cases e';omega
   have HK1:=aA hk;clear hA hR hX hcl hl hpk hokL hcf bd hj ei hk;go_wp2_with fail
   go_region_held3 (fun u=>u.cell? ⟨lb,off+i,none⟩=some (.slice (lad i) l (lcp i))) (first|with_reducible exact hS|with_reducible exact KC.out _ R1.out|with_reducible exact KC.out _ R2.out|with_reducible exact KC.out _ R3.out|with_reducible exact KC.out _ R4.out) (first|(go_at_call 48;(with_reducible refine HPK.out.mono ?_);rintro e v1 ⟨x,rfl,x0,x1,hA1,hB1⟩;have hwx:IntKind.i64.wrap (1+x)=1+x:=(by rw[IntKind.wrap_i64];omega);have V1:=aA hA1;have R1:=aA (HRD.out.fr (EE hB1) (fun b hn e=>hn.1 e));have X1:=aA (HXD.out.beside hBlt hB1);have hs1:w5.heap.size≤v1.heap.size:=jQ hszD hB1.size;clear hA1 hB1)|(go_at_call 59;(with_reducible refine(HSC.out v1 (1+x) (by omega) (by omega) R1.out).mono ?_);rintro e v2 ⟨a',c',Y,rfl, -,hb2,hO2⟩;have R2:=aA (R1.out.below hb2);have b3:=aC v2 (.cells #[.slice a' Y.length c'] 41);have R3:=aA (R2.out.below b3);have V3:=aA ((V1.out.below hb2).below b3);obtain⟨p1,p2,p3,p4,p5⟩:=HPU.out v1 v2 a' c' Y X1.out hs1 hb2 hO2;have P1:=aA p1;have P1e:=aA p1.e;have P2:=aA p2;have P3:=aA p3;have P5:=aA p5;clear hb2 hO2 b3 p1 p2 p3 p5)|(refine uJ (m:=1) (es:=es) (es':=[(⟨a',c',Y⟩:E)]) (by rfl) (.tmp 41) (.tmp 50) (by rfl) P1e.out (by rfl) rfl (by rfl) P2.out P3.out p4 hn1 ?_;intro tv4 v4 q1 q2 q3;have b4:=q2 _ _ (bG _ _) (Nat.le_refl _);have R4:=aA (R3.out.fr (Lu b4) (fun b hn e=>Nat.not_lt.2 e hn.2));have V4:=aA (V3.out.lo b4 hBlt);have X4:Hid (zY w.heap.size w5.heap.size v4 tv4 (es++[(⟨a',c',Y⟩:E)])):=⟨q1,fun x hx=>(List.mem_append.1 hx).elim (fun q=>P1.out.far x q) (fun q=>(List.mem_singleton.1 q)▸P5.out)⟩;have hs4:w5.heap.size≤v4.heap.size:=jQ p4 q3;clear q1 q2 q3 b4))
   go_wp2;go_roundw;case rel=>exact⟨i,k+1,es++[(⟨a',c',Y⟩:E)],by have:=HJ.out;rw[List.length_append];simp;omega,by go_num,by have:=HK1.out;omega,V4.out,R4.out,X4.out,hs4⟩
   case measure=>simp[intOf]<;>omega
  ·have hj0':j=0:=by omega
   subst hj0';have hneg:¬((0:Int)≤((0:Nat):Int)-1):=by omega
   have hneg2:((0:Nat):Int)-1<0:=by omega
   obtain⟨ba,bc,htv,hrd⟩:=hX.e.rd (by omega);have hF:=hrd.rds
   have hln:es.length=n:=by omega
   rw[hln]at htv hF;subst htv;have HF:=aA hF
   have HBB:=aA hA.bel;clear hA hR hX hrd hF;go_wp2;refine cD (results_tmp3 rfl _ _ _) rfl ?_;exact⟨o,la,n,lc,lad,lcp,L,ba,n,bc,_,_,_,rfl,HR.out.1,hn,HF.out,hn,HBB.out⟩
end Go.Proofs.YtelkehjdfcoeiaaGreat
