/-
  The model's PolText.
-/
import Derived.Test.YtkcmamepoplcdaaGreatDoorVag
set_option maxHeartbeats 8000000
set_option maxRecDepth 100000
namespace Go.Proofs.YtkcmamepoplcdaaGreatDoor
open Go.RowKit
set_option linter.unusedVariables false
set_option linter.unusedSimpArgs false
theorem uA {a b:List UInt8} (h:a=b):(Value.string ⟨a.toArray⟩)= .string ⟨b.toArray⟩:=by rw[h]
theorem sP (w:World) (a:Option Addr) (n cap:Nat) (f:Nat→T) (h:Rd w a n cap f):Calls Tryz.prog 43 #[.slice a n cap] w fun r w'=>r= .returned (.string ⟨(cY n f).toArray⟩)∧Below w.heap.size w w':=by
 have HH:=aA h;have hnI:(n:Int)≤9223372036854775807:=by have:=h.2.1;omega
 obtain⟨ok,hok⟩:∃b,aK n f=b:=⟨_,rfl⟩
 have hc:=bD w a n cap f h;rw[hok]at hc;have HC:=aA hc
 have HOK:=aA hok;clear hc hok h;obtain⟨R,hR⟩:∃R,cY n f=R:=⟨_,rfl⟩
 rw[hR];cases ok
 ·have HR:=aA (hR.symm.trans (wS HOK.out));clear hR;go_enter Tryz.func43,Tryz.ntmps43;go_wp2_with fail;refine HC.out.mono ?_;rintro r w1 ⟨rfl,hb⟩;go_wp2;go_ret;exact⟨by rw[HR.out];rfl,hb⟩
 ·by_cases h0:n=0
  ·have HR:=aA (hR.symm.trans (mV HOK.out h0));have hn0:((n:Int)==0)=true:=by rw[h0];rfl
   clear hR h0;go_enter Tryz.func43,Tryz.ntmps43;go_wp2_with fail;refine HC.out.mono ?_;rintro r w1 ⟨rfl,hb⟩;go_wp2;go_ret;exact⟨by rw[HR.out];rfl,hb⟩
  ·have HR:=aA (hR.symm.trans (oX HOK.out h0));have hn0:((n:Int)==0)=false:=beq_eq_false_iff_ne.2 (by omega)
   have HALL:=aA (cT HOK.out);have n400:=(cT HOK.out).1
   have n400I:(n:Int)≤400:=by omega
   clear hR;obtain⟨b,off,rfl,hblt,hcl⟩:=HH.out.2.2.resolve_left h0;have HCL:=aA hcl
   clear hcl;go_enter Tryz.func43,Tryz.ntmps43;go_wp2_with fail;refine HC.out.mono ?_;rintro r w1 ⟨rfl,hb⟩;have HB1:=aA hb
   have hs1:=hb.size;clear hb HC;go_wp2;go_loopw [4,3] (fun v4 v3 wr=>∃(k:Nat) (S:List UInt8),k≤n∧v4= .int .i64 (k:Int)∧v3= .string ⟨S.toArray⟩∧Hid (S=qO f k)∧Hid (Below w.heap.size w wr)) (fun v4 _ _=>n-(intOf v4).toNat);case atStart=>exact⟨0,[],iK _,rfl,rfl,aA rfl,HB1⟩
   case round=>
    obtain⟨k,S,hk,rfl,rfl,HS,HB⟩:=hrel;by_cases hkn:k<n
    ·have hklI:(k:Int)<(n:Int):=by omega
     have hSl:S.length≤6800:=by
      rw[HS.out];have:=oH k (fun i hi=>HALL.out.2 i (by omega))
      omega
     obtain⟨⟨tc1,tc2⟩,tmo⟩:=HALL.out.2 k hkn;obtain⟨t,ht⟩:∃t,f k=t:=⟨_,rfl⟩
     have HJ:=aA (show qO f (k+1)=(if k=0 then[]else qO f k++[43])++fQ t by rw[←ht];rfl);rw[←HS.out]at HJ;have HS00:Hid (S=qO f k):=HS
     obtain⟨g0,g1,g2,g3,g4⟩:=(HCL.out k hkn).below HB.out hblt;rw[ht]at tc1 tc2 tmo g0 g1 g2 g3 g4;clear ht;obtain⟨c,⟨x,y,d,e⟩⟩:=t;simp only at tc1 tc2 tmo g0 g1 g2 g3 g4;obtain⟨C,rfl⟩:∃C:Nat,c=(C:Int):=⟨c.toNat,by omega⟩
     have hC100:C≤100:=by omega
     obtain⟨MT,hMT⟩:∃MT,eY ⟨x,y,d,e⟩=MT:=⟨_,rfl⟩
     have hml:MT.length≤12:=by rw[←hMT];exact oO tmo
     have hcm:∀u:World,Calls Tryz.prog 75 #[.agg #[.int .i64 x,.int .i64 y,.int .i64 d,.int .i64 e]] u fun r w'=>r= .returned (.string ⟨MT.toArray⟩)∧Below u.heap.size u w':=fun u=>by rw[←hMT];exact JV x y d e u
     obtain⟨DT,hDT⟩:∃DT,Lib.decDigits C=DT:=⟨_,rfl⟩
     have hdl:DT.length≤4:=by rw[←hDT];exact iE (by omega)
     have hcd:∀u:World,Calls Tryz.prog 41 #[.int .i64 (C:Int)] u fun r w'=>r= .returned (.string ⟨DT.toArray⟩)∧Below u.heap.size u w':=fun u=>by rw[←hDT];exact mN C (by omega) u
     have htrm:fQ ⟨(C:Int),⟨x,y,d,e⟩⟩=if MT=[49]then DT else if C=1 then MT else DT++MT:=by
      show(if x=0∧y=0∧d=0∧e=0 then Lib.decDigits C else if(C:Int)=1 then eY ⟨x,y,d,e⟩else Lib.decDigits C++eY ⟨x,y,d,e⟩)=_;rw[hMT,hDT];by_cases hz:x=0∧y=0∧d=0∧e=0
      ·have hm:MT=[49]:=by obtain⟨rfl,rfl,rfl,rfl⟩:=hz;rw[←hMT];exact RR
       rw[if_pos hz,if_pos hm]
      ·have hm:MT≠[49]:=by rw[←hMT];exact(FB tmo hz).1
       rw[if_neg hz,if_neg hm];by_cases h1:C=1
       ·rw[if_pos h1,if_pos (by omega)]
       ·rw[if_neg h1,if_neg (by omega)]
     rw[htrm]at HJ;have HCM:=aA hcm
     have HCD:=aA hcd;clear hcm hcd hMT hDT htrm tmo HS;by_cases hk0:k=0
     ·subst hk0;have HJ0:Hid (qO f 1=if MT=[49]then DT else if C=1 then MT else DT++MT):=HJ.out
      have hS0:S=[]:=HS00.out;subst hS0;clear HS00;simp only[Nat.zero_mul,Nat.add_zero]at g0 g1 g2 g3 g4;clear HJ;by_cases hm1:MT=[49]
      ·subst hm1;have HQ:Hid (DT=qO f 1):=by rw[HJ0.out,if_pos rfl];exact aA rfl
       go_wp2_with fail;refine(HCM.out _).mono ?_;rintro r wx0 ⟨rfl,hbx0⟩;have HBx0:=aA (aC HB.out hbx0)
       obtain⟨g0,g1,g2,g3,g4⟩:=fM.below (t:=⟨_,⟨x,y,d,e⟩⟩) ⟨g0,g1,g2,g3,g4⟩ hbx0 (by have:=HB.out.size;omega);simp only at g0 g1 g2 g3 g4;clear hbx0;go_wp2_with fail;refine(HCD.out _).mono ?_;rintro r wx1 ⟨rfl,hbx1⟩;have HBx1:=aA (aC HBx0.out hbx1)
       obtain⟨g0,g1,g2,g3,g4⟩:=fM.below (t:=⟨_,⟨x,y,d,e⟩⟩) ⟨g0,g1,g2,g3,g4⟩ hbx1 (by have:=HBx0.out.size;omega);simp only at g0 g1 g2 g3 g4;clear hbx1;go_wp2;go_roundw;case rel=>exact⟨1,_,by omega,by go_num,by first|rfl|(refine uA ?_;simp;done)|(congr 1;apply ByteArray.ext;simp[ByteArray.data_append];done),HQ,HBx1⟩
       case measure=>simp[intOf];omega
      ·have hmb1:(MT==[49])=false:=beq_eq_false_iff_ne.2 hm1;by_cases hc1:C=1
       ·subst hc1;have HQ:Hid (MT=qO f 1):=by rw[HJ0.out,if_neg hm1,if_pos rfl];exact aA rfl
        go_wp2_with fail;refine(HCM.out _).mono ?_;rintro r wx0 ⟨rfl,hbx0⟩;have HBx0:=aA (aC HB.out hbx0)
        obtain⟨g0,g1,g2,g3,g4⟩:=fM.below (t:=⟨_,⟨x,y,d,e⟩⟩) ⟨g0,g1,g2,g3,g4⟩ hbx0 (by have:=HB.out.size;omega);simp only at g0 g1 g2 g3 g4;clear hbx0;go_wp2;go_roundw;case rel=>exact⟨1,_,by omega,by go_num,by first|rfl|(refine uA ?_;simp;done)|(congr 1;apply ByteArray.ext;simp[ByteArray.data_append];done),HQ,HBx0⟩
        case measure=>simp[intOf];omega
       ·have hc1I:((C:Int)==1)=false:=beq_eq_false_iff_ne.2 (by omega);have HQ:Hid (DT++MT=qO f 1):=by rw[HJ0.out,if_neg hm1,if_neg hc1];exact aA rfl
        go_wp2_with fail;refine(HCM.out _).mono ?_;rintro r wx0 ⟨rfl,hbx0⟩;have HBx0:=aA (aC HB.out hbx0)
        obtain⟨g0,g1,g2,g3,g4⟩:=fM.below (t:=⟨_,⟨x,y,d,e⟩⟩) ⟨g0,g1,g2,g3,g4⟩ hbx0 (by have:=HB.out.size;omega);simp only at g0 g1 g2 g3 g4;clear hbx0;go_wp2_with fail;refine(HCD.out _).mono ?_;rintro r wx1 ⟨rfl,hbx1⟩;have HBx1:=aA (aC HBx0.out hbx1)
        obtain⟨g0,g1,g2,g3,g4⟩:=fM.below (t:=⟨_,⟨x,y,d,e⟩⟩) ⟨g0,g1,g2,g3,g4⟩ hbx1 (by have:=HBx0.out.size;omega);simp only at g0 g1 g2 g3 g4;clear hbx1;go_wp2;go_roundw;case rel=>exact⟨1,_,by omega,by go_num,by first|rfl|(refine uA ?_;simp;done)|(congr 1;apply ByteArray.ext;simp[ByteArray.data_append];done),HQ,HBx1⟩
        case measure=>simp[intOf];omega
     ·have hkp:(0:Int)<(k:Int):=by omega
      have HJ1:Hid (qO f (k+1)=S++[43]++if MT=[49]then DT else if C=1 then MT else DT++MT):=by have:=HJ.out;rw[if_neg hk0]at this;exact this
      clear HJ;by_cases hm1:MT=[49]
      ·subst hm1;have HQ:Hid (S++[43]++DT=qO f (k+1)):=by rw[HJ1.out,if_pos rfl];exact aA rfl
       go_wp2_with fail;refine(HCM.out _).mono ?_;rintro r wx0 ⟨rfl,hbx0⟩;have HBx0:=aA (aC HB.out hbx0)
       obtain⟨g0,g1,g2,g3,g4⟩:=fM.below (t:=⟨_,⟨x,y,d,e⟩⟩) ⟨g0,g1,g2,g3,g4⟩ hbx0 (by have:=HB.out.size;omega);simp only at g0 g1 g2 g3 g4;clear hbx0;go_wp2_with fail;refine(HCD.out _).mono ?_;rintro r wx1 ⟨rfl,hbx1⟩;have HBx1:=aA (aC HBx0.out hbx1)
       obtain⟨g0,g1,g2,g3,g4⟩:=fM.below (t:=⟨_,⟨x,y,d,e⟩⟩) ⟨g0,g1,g2,g3,g4⟩ hbx1 (by have:=HBx0.out.size;omega);simp only at g0 g1 g2 g3 g4;clear hbx1;go_wp2;go_roundw;case rel=>exact⟨k+1,_,by omega,by go_num,by first|rfl|(refine uA ?_;simp;done)|(congr 1;apply ByteArray.ext;simp[ByteArray.data_append];done),HQ,HBx1⟩
       case measure=>simp[intOf];omega
      ·have hmb1:(MT==[49])=false:=beq_eq_false_iff_ne.2 hm1;by_cases hc1:C=1
       ·subst hc1;have HQ:Hid (S++[43]++MT=qO f (k+1)):=by rw[HJ1.out,if_neg hm1,if_pos rfl];exact aA rfl
        go_wp2_with fail;refine(HCM.out _).mono ?_;rintro r wx0 ⟨rfl,hbx0⟩;have HBx0:=aA (aC HB.out hbx0)
        obtain⟨g0,g1,g2,g3,g4⟩:=fM.below (t:=⟨_,⟨x,y,d,e⟩⟩) ⟨g0,g1,g2,g3,g4⟩ hbx0 (by have:=HB.out.size;omega);simp only at g0 g1 g2 g3 g4;clear hbx0;go_wp2;go_roundw;case rel=>exact⟨k+1,_,by omega,by go_num,by first|rfl|(refine uA ?_;simp;done)|(congr 1;apply ByteArray.ext;simp[ByteArray.data_append];done),HQ,HBx0⟩
        case measure=>simp[intOf];omega
       ·have hc1I:((C:Int)==1)=false:=beq_eq_false_iff_ne.2 (by omega);have HQ:Hid (S++[43]++(DT++MT)=qO f (k+1)):=by rw[HJ1.out,if_neg hm1,if_neg hc1];exact aA rfl
        go_wp2_with fail;refine(HCM.out _).mono ?_;rintro r wx0 ⟨rfl,hbx0⟩;have HBx0:=aA (aC HB.out hbx0)
        obtain⟨g0,g1,g2,g3,g4⟩:=fM.below (t:=⟨_,⟨x,y,d,e⟩⟩) ⟨g0,g1,g2,g3,g4⟩ hbx0 (by have:=HB.out.size;omega);simp only at g0 g1 g2 g3 g4;clear hbx0;go_wp2_with fail;refine(HCD.out _).mono ?_;rintro r wx1 ⟨rfl,hbx1⟩;have HBx1:=aA (aC HBx0.out hbx1)
        obtain⟨g0,g1,g2,g3,g4⟩:=fM.below (t:=⟨_,⟨x,y,d,e⟩⟩) ⟨g0,g1,g2,g3,g4⟩ hbx1 (by have:=HBx0.out.size;omega);simp only at g0 g1 g2 g3 g4;clear hbx1;go_wp2;go_roundw;case rel=>exact⟨k+1,_,by omega,by go_num,by first|rfl|(refine uA ?_;simp;done)|(congr 1;apply ByteArray.ext;simp[ByteArray.data_append];done),HQ,HBx1⟩
        case measure=>simp[intOf];omega
    ·have hke:k=n:=by omega
     subst hke;have hnl:¬(k:Int)<(k:Int):=by omega
     have HRS:=aA (HR.out.trans HS.out.symm);go_wp2;go_ret;exact⟨by rw[HRS.out];rfl,HB.out⟩
end Go.Proofs.YtkcmamepoplcdaaGreatDoor
