/-
  What is true of a list of whose pairs nothing is left: what is made of it, what is left by it.
-/
import Derived.Test.YtncffcaabnjioaaGreatMCaa
import Derived.Test.YtncffcaabnjioaaGreatMDaa
set_option maxHeartbeats 8000000
set_option maxRecDepth 100000
namespace Go.Proofs.YtncffcaabnjioaaGreat
open Go.RowKit Go.Deep Go.Joins
set_option linter.unusedVariables false
theorem OT {o:Int} {n:Nat} {L:Nat→List T} (hB:JW o n L) {q p X:List T} {S D:Dv} (hS:aP o p n (lN L) (fN L)=some S) (h0:S.r=[]) (h1:lF q p=(X,true)) (hD:aP o X n (lN L) (fN L)=some D):nZ (some D)=true:=pH (hB.left hD (wW (yT hS h0) h1))
end Go.Proofs.YtncffcaabnjioaaGreat
namespace Go.Proofs.YtncffcaabnjioaaGreat
open Go.RowKit
set_option linter.unusedVariables false
theorem xT (w:World) (a0:Option Addr) (len0 cap0:Nat) (s0:EV w a0 len0 cap0) (a1:Option Addr) (len1 cap1:Nat) (s1:EV w a1 len1 cap1):Calls Tryz.prog 7 #[.slice a0 len0 cap0,.slice a1 len1 cap1] w fun e w'=>e= .returned (.bool true)∧Below w.heap.size w w':=by
 by_cases c0:(1048576:Int)<(len0:Int)
 ·go_enter Tryz.func7,Tryz.ntmps7;go_wp2;go_ret;exact⟨rfl,cE _ _⟩
 by_cases c1:(1048576:Int)<(len1:Int)
 ·go_enter Tryz.func7,Tryz.ntmps7;go_wp2;go_ret;exact⟨rfl,cE _ _⟩
 go_enter Tryz.func7,Tryz.ntmps7;go_wp2_with fail;refine(pG w a0 len0 cap0 s0).mono ?_;rintro e wd ⟨o,pa,pc,p,la0,n,lc0,ad0,cp0,L,rfl,hP,hG,hlp,hln,hbd⟩;have HP0:=aA hP
 have HG0:=aA hG;have Z0:=aA hbd
 have S1:=aA (s1.below hbd);clear hP hG hbd s0 s1;have hn5:(n:Int)≤12:=by omega
 have hp5:(p.length:Int)≤400:=by omega
 obtain⟨R,hR⟩:∃R,aP o p n (lN L) (fN L)=R:=⟨_,rfl⟩
 have HR:=aA (hR);clear hR;obtain⟨gk,hgk⟩:∃b,rU o n L=b:=⟨_,rfl⟩
 have HGK:=aA (hgk);clear hgk;go_wp2_with fail;refine(mT wd a1 len1 cap1 S1.out).mono ?_;rintro e we ⟨dc,dcc,C,dd,dcd,D,rfl,hC,hD,hlC,hlD,hbe⟩;have HC0:=aA hC
 clear hC hD S1;have H1:=aA (HP0.out.below hbe)
 clear HP0;have H2:=aA (HG0.out.below hbe)
 clear HG0;have Z3:=aA (aB Z0.out hbe)
 clear Z0;clear hbe;obtain⟨X,o1,h1⟩:∃Q q,lF C p=(Q,q):=⟨_,_,rfl⟩
 have KW1:=aA (h1);clear h1;rcases R with _|S
 ·go_wp2_with fail;refine(dH _ o _ _ _ _ n _ _ (lN L) _ (fN L) H1.out H2.out HR.out).mono ?_;rw[show nZ none=false from rfl];rintro e w4 ⟨rfl,b5⟩;have H6:=aA (H1.out.below b5)
  clear H1;have H7:=aA (H2.out.below b5)
  clear H2;have H8:=aA (HC0.out.below b5)
  clear HC0;have Z9:=aA (aB Z3.out b5)
  clear Z3;clear b5;go_wp2_with fail;refine(mY _ o _ _ _ _ n _ _ (lN L) _ (fN L) H6.out H7.out HR.out).mono ?_;rw[show nZ none=false from rfl];rintro e w10 ⟨rfl,b11⟩;have H12:=aA (H6.out.below b11)
  clear H6;have H13:=aA (H7.out.below b11)
  clear H7;have H14:=aA (H8.out.below b11)
  clear H8;have Z15:=aA (aB Z9.out b11)
  clear Z9;clear b11;go_wp2_with fail;refine(sQ H14.out H12.out).mono ?_;rw[KW1.out];rintro e w16 ⟨a17,c18,rfl,b19,r20⟩;have H21:=aA (H12.out.below b19)
  clear H12;have H22:=aA (H13.out.below b19)
  clear H13;have H23:=aA (H14.out.below b19)
  clear H14;have Z24:=aA (aB Z15.out b19)
  clear Z15;have H25:Hid (RL w16 a17 c18 X):=r20
  clear r20;clear b19;go_wp2_with fail;refine(eC _).mono ?_;rintro e w26 ⟨rfl,b27⟩;have H28:=aA (H21.out.below b27)
  clear H21;have H29:=aA (H22.out.below b27)
  clear H22;have H30:=aA (H23.out.below b27)
  clear H23;have H31:=aA (H25.out.below b27)
  clear H25;have Z32:=aA (aB Z24.out b27)
  clear Z24;clear b27;go_wp2;go_ret;exact⟨rfl,Z32.out⟩
 ·by_cases hr0:S.r=[]
  ·have HGI:=aA (pH hr0);have HR0:=aA (hr0)
   have hl0:(S.r.length:Int)=0:=by rw[hr0];rfl
   have HL0:=aA (hl0);have hq0:((S.r.length:Int)==0)=true:=by rw[hl0];rfl
   clear hr0 hl0;go_wp2_with fail;refine(dH _ o _ _ _ _ n _ _ (lN L) _ (fN L) H1.out H2.out HR.out).mono ?_;rw[HGI.out];rintro e w33 ⟨rfl,b34⟩;have H35:=aA (H1.out.below b34)
   clear H1;have H36:=aA (H2.out.below b34)
   clear H2;have H37:=aA (HC0.out.below b34)
   clear HC0;have Z38:=aA (aB Z3.out b34)
   clear Z3;clear b34;go_wp2_with fail;refine(mY _ o _ _ _ _ n _ _ (lN L) _ (fN L) H35.out H36.out HR.out).mono ?_;rw[HGI.out];rintro e w39 ⟨rfl,b40⟩;have H41:=aA (H35.out.below b40)
   clear H35;have H42:=aA (H36.out.below b40)
   clear H36;have H43:=aA (H37.out.below b40)
   clear H37;have Z44:=aA (aB Z38.out b40)
   clear Z38;clear b40;go_wp2_with fail;refine(sQ H43.out H41.out).mono ?_;rw[KW1.out];rintro e w45 ⟨a46,c47,rfl,b48,r49⟩;have H50:=aA (H41.out.below b48)
   clear H41;have H51:=aA (H42.out.below b48)
   clear H42;have H52:=aA (H43.out.below b48)
   clear H43;have Z53:=aA (aB Z44.out b48)
   clear Z44;have H54:Hid (RL w45 a46 c47 X):=r49
   clear r49;clear b48;cases o1
   ·go_wp2_with fail;refine(eC _).mono ?_;rintro e w55 ⟨rfl,b56⟩;have H57:=aA (H50.out.below b56)
    clear H50;have H58:=aA (H51.out.below b56)
    clear H51;have H59:=aA (H52.out.below b56)
    clear H52;have H60:=aA (H54.out.below b56)
    clear H54;have Z61:=aA (aB Z53.out b56)
    clear Z53;clear b56;go_wp2;go_ret;exact⟨rfl,Z61.out⟩
   ·go_wp2_with fail;refine(tF _ o _ n _ _ _ L H51.out).mono ?_;rw[HGK.out];rintro e w62 ⟨rfl,b63⟩;have H64:=aA (H50.out.below b63)
    clear H50;have H65:=aA (H51.out.below b63)
    clear H51;have H66:=aA (H52.out.below b63)
    clear H52;have H67:=aA (H54.out.below b63)
    clear H54;have Z68:=aA (aB Z53.out b63)
    clear Z53;clear b63;cases gk
    ·go_wp2_with fail;refine(eC _).mono ?_;rintro e w69 ⟨rfl,b70⟩;have H71:=aA (H64.out.below b70)
     clear H64;have H72:=aA (H65.out.below b70)
     clear H65;have H73:=aA (H66.out.below b70)
     clear H66;have H74:=aA (H67.out.below b70)
     clear H67;have Z75:=aA (aB Z68.out b70)
     clear Z68;clear b70;go_wp2;go_ret;exact⟨rfl,Z75.out⟩
    ·obtain⟨hBas,ho3,hlst⟩:=sU HGK.out;have HBAS:=aA (hBas)
     clear hBas ho3 hlst;obtain⟨R2,hR2⟩:∃R,aP o X n (lN L) (fN L)=R:=⟨_,rfl⟩
     have HR2:=aA (hR2);clear hR2;rcases R2 with _|D2
     ·go_wp2_with fail;refine(dH _ o _ _ _ _ n _ _ (lN L) _ (fN L) H67.out H65.out HR2.out).mono ?_;rw[show nZ none=false from rfl];rintro e w76 ⟨rfl,b77⟩;have H78:=aA (H64.out.below b77)
      clear H64;have H79:=aA (H65.out.below b77)
      clear H65;have H80:=aA (H66.out.below b77)
      clear H66;have H81:=aA (H67.out.below b77)
      clear H67;have Z82:=aA (aB Z68.out b77)
      clear Z68;clear b77;go_wp2;go_ret;exact⟨rfl,Z82.out⟩
     ·have HLAW:=aA (OT HBAS.out HR.out HR0.out KW1.out HR2.out);go_wp2_with fail;refine(dH _ o _ _ _ _ n _ _ (lN L) _ (fN L) H67.out H65.out HR2.out).mono ?_;rw[HLAW.out];rintro e w83 ⟨rfl,b84⟩;have H85:=aA (H64.out.below b84)
      clear H64;have H86:=aA (H65.out.below b84)
      clear H65;have H87:=aA (H66.out.below b84)
      clear H66;have H88:=aA (H67.out.below b84)
      clear H67;have Z89:=aA (aB Z68.out b84)
      clear Z68;clear b84;go_wp2;go_ret;exact⟨rfl,Z89.out⟩
  ·have HGI:=aA (vA hr0);have hq0:((S.r.length:Int)==0)=false:=beq_eq_false_iff_ne.2 (fun e=>hr0 (List.length_eq_zero_iff.1 (by omega)))
   clear hr0;go_wp2_with fail;refine(dH _ o _ _ _ _ n _ _ (lN L) _ (fN L) H1.out H2.out HR.out).mono ?_;rw[HGI.out];rintro e w90 ⟨rfl,b91⟩;have H92:=aA (H1.out.below b91)
   clear H1;have H93:=aA (H2.out.below b91)
   clear H2;have H94:=aA (HC0.out.below b91)
   clear HC0;have Z95:=aA (aB Z3.out b91)
   clear Z3;clear b91;go_wp2_with fail;refine(mY _ o _ _ _ _ n _ _ (lN L) _ (fN L) H92.out H93.out HR.out).mono ?_;rw[HGI.out];rintro e w96 ⟨rfl,b97⟩;have H98:=aA (H92.out.below b97)
   clear H92;have H99:=aA (H93.out.below b97)
   clear H93;have H100:=aA (H94.out.below b97)
   clear H94;have Z101:=aA (aB Z95.out b97)
   clear Z95;clear b97;go_wp2_with fail;refine(sQ H100.out H98.out).mono ?_;rw[KW1.out];rintro e w102 ⟨a103,c104,rfl,b105,r106⟩;have H107:=aA (H98.out.below b105)
   clear H98;have H108:=aA (H99.out.below b105)
   clear H99;have H109:=aA (H100.out.below b105)
   clear H100;have Z110:=aA (aB Z101.out b105)
   clear Z101;have H111:Hid (RL w102 a103 c104 X):=r106
   clear r106;clear b105;go_wp2_with fail;refine(eC _).mono ?_;rintro e w112 ⟨rfl,b113⟩;have H114:=aA (H107.out.below b113)
   clear H107;have H115:=aA (H108.out.below b113)
   clear H108;have H116:=aA (H109.out.below b113)
   clear H109;have H117:=aA (H111.out.below b113)
   clear H111;have Z118:=aA (aB Z110.out b113)
   clear Z110;clear b113;go_wp2;go_ret;exact⟨rfl,Z118.out⟩
end Go.Proofs.YtncffcaabnjioaaGreat
