/-
  A basis is made: the model's GrbMake, where it is not empty.
-/
import Derived.Test.YtmlaedpamobmhaaGreatMEaa
import Derived.Test.YtmlaedpamobmhaaGreatMBag
import Derived.Test.YtmlaedpamobmhaaGreatMDaa
set_option maxHeartbeats 8000000
set_option maxRecDepth 100000
namespace Go.Proofs.YtmlaedpamobmhaaGreat
open Go.RowKit Go.Deep Go.Joins
set_option linter.unusedVariables false
set_option linter.unusedSimpArgs false
section
variable {o:Int} {n:Nat} {L:Nat→List T}
theorem UM (hL:rW o n L) {i k:Nat} (hi:i<n) (hk:k<n) {s:List T} (hs:aZ o (lf (L i)) (L i).length (lf (L k)) (L k).length=(s,true)):gQ n L (Rp aN s):=by
 obtain⟨U,V,_,_,u1,v1,um,vm,e,k1,hb⟩:=wW hL hi hk hs;have n1:U.m.nn:=by rw[um];exact lE (wZ _ _).1
 have n2:V.m.nn:=by rw[vm];exact lE (wZ _ _).2
 rw[e];exact(gQ.one _ hi n1).sum (gQ.one _ hk n2)
end
end Go.Proofs.YtmlaedpamobmhaaGreat
namespace Go.Proofs.YtmlaedpamobmhaaGreat
open Go.RowKit Go.Deep Go.Joins
set_option linter.unusedVariables false
theorem ZN {w:World} (o:Int) {a b:Option Addr} {ca cb:Nat} {A B:List T} (ha:RL w a ca A) (hb:RL w b cb B):Calls Tryz.prog 22 #[.int .i64 o,.slice a A.length ca,.slice b B.length cb] w (CH w (aZ o (lf A) A.length (lf B) B.length)):=
 (IC w o a b A.length ca B.length cb (lf A) (lf B) ha hb).mono fun _ _ h=>ED h
abbrev Hn (p1 o1 p2 o2:Nat) (v1 v2:Value) (u:World):Prop:=u.cell? ⟨p1,o1,none⟩=some v1∧u.cell? ⟨p2,o2,none⟩=some v2
theorem SY (w:World) (o:Int) (a:Option Addr) (n c:Nat) (ad0:Nat→Option Addr) (cp0:Nat→Nat) (L:Nat→List T) (h:eJ w a n c ad0 (lN L) cp0 (fN L)) (hn:1≤n∧n≤12) (ho:1≤o∧o≤3) (hl:aU n (lN L) (fN L)=true) (hB:ZZ o n L):Calls Tryz.prog 15 #[.int .i64 o,.slice a n c] w (LE w (.bool true)):=by
 obtain⟨lb,off,rfl,hlb,hcl⟩:=h.2.2.1.resolve_left (by omega);have HG:=aA h
 have HCL:=aA hcl;have HL:=aA hl
 have HBS:=aA hB;have HO:=aA ho
 obtain⟨n1,n2⟩:=hn;have n12:(n:Int)≤12:=by omega
 clear h hcl hl hB ho;unfold LE;go_enter Tryz.func15,Tryz.ntmps15;go_wp2;go_loopw [5] (fun vk wr=>∃k:Nat,1≤k∧k≤n∧vk= .int .i64 (k:Int)∧Below w.heap.size w wr) (fun vk _=>n-(intOf vk).toNat);case atStart=>exact⟨1,Nat.le_refl _,by omega,rfl,bQ _ _⟩
 case round=>
  obtain⟨k,hk1,hk2,rfl,hBel⟩:=hrel;have HBk:=aA hBel
  by_cases hlt:k<n
  ·have hkl:(k:Int)<(n:Int):=by omega
   clear hBel;go_wp2;go_loopw [6] (fun vi wi=>∃i:Nat,i≤k∧vi= .int .i64 (i:Int)∧Below w.heap.size w wi) (fun vi _=>k-(intOf vi).toNat);case atStart=>exact⟨0,gY _,rfl,HBk.out⟩
   case round=>
    obtain⟨i,hi,rfl,hBi⟩:=hrel;have HBi:=aA hBi
    by_cases hik:i<k
    ·have hil:(i:Int)<(k:Int):=by omega
     have hin:(i:Int)<(n:Int):=by omega
     have hbd:lb<wr.heap.size:=iZ hlb hBi.size;obtain⟨A,hA⟩:∃A,L i=A:=⟨_,rfl⟩
     obtain⟨Bk,hBk⟩:∃A,L k=A:=⟨_,rfl⟩
     have hBd:=aB hBi ((bQ _ wr).drew);have hS:Hn lb (off+i) lb (off+k) (.slice (ad0 i) A.length (cp0 i)) (.slice (ad0 k) Bk.length (cp0 k)) wr.drew:=⟨(hBd.cell (p:=⟨lb,off+i,none⟩) hlb).trans (by rw[←hA];exact HCL.out i (by omega)),(hBd.cell (p:=⟨lb,off+k,none⟩) hlb).trans (by rw[←hBk];exact HCL.out k hlt)⟩
     have RA:Hid (RL wr.drew (ad0 i) (cp0 i) A):=by rw[←hA];exact(HG.out.2.2.2 i (by omega)).below hBd
     have RB:Hid (RL wr.drew (ad0 k) (cp0 k) Bk):=by rw[←hBk];exact(HG.out.2.2.2 k hlt).below hBd
     obtain⟨s,sb,hsp⟩:∃s sb,aZ o (lf A) A.length (lf Bk) Bk.length=(s,sb):=⟨_,_,rfl⟩
     have hc:=ZN (w:=wr.drew) o RA.out RB.out;rw[hsp]at hc;have HC:=aA hc
     have hsp':aZ o (lf (L i)) (L i).length (lf (L k)) (L k).length=(s,sb):=by rw[hA,hBk];exact hsp
     have HSP:=aA hsp';have HBd:=aA hBd
     have HS:=aA hS;clear hS hc hsp hsp' hA hBk hBi hBd;go_wp2_with fail;have hS:=HS.out
     go_region_held3 (fun u=>u.cell? ⟨lb,off+i,none⟩=some (.slice (ad0 i) A.length (cp0 i))∧u.cell? ⟨lb,off+k,none⟩=some (.slice (ad0 k) Bk.length (cp0 k))) (first|with_reducible exact hS|with_reducible exact Aa.below hS b5) (first|(go_at_call 22;refine HC.out.mono ?_;rintro e w5 ⟨za,zc,rfl,b5,hz⟩))
     have HZ5:Hid (RL w5 za zc s):=hz;have HB5:=aA (aB HBd.out b5)
     have HG5:=aA (HG.out.below HB5.out);clear hS b5 hz HC RA RB HS;obtain⟨R,hR⟩:∃R,bJ o s n (lN L) (fN L)=R:=⟨_,rfl⟩
     have HR:=aA hR;clear hR;rcases R with _|S
     ·go_wp2_with fail;refine(MZ HZ5.out HG5.out HR.out).mono ?_;rintro e w6 ⟨qa6,qc6,ad6,cp6,la6,lc6,rfl,hb6,_,_⟩;have HB6:=aA (aB HB5.out hb6)
      clear hb6;cases sb
      ·go_wp2;go_roundw;case rel=>exact⟨i+1,by omega,by go_num,HB6.out⟩
       case measure=>simp[intOf];omega
      ·go_wp2;go_roundw;case rel=>exact⟨i+1,by omega,by go_num,HB6.out⟩
       case measure=>simp[intOf];omega
     ·cases sb
      ·have hs300:(S.r.length:Int)≤300:=by have:=(cY HR.out).1.r.2;omega
       go_wp2_with fail;refine(yR HZ5.out HG5.out HR.out).mono ?_;rintro e w6 ⟨qa6,qc6,ad6,cp6,la6,lc6,rfl,hb6,_,_⟩;have HB6:=aA (aB HB5.out hb6)
       clear hb6;go_wp2;go_roundw;case rel=>exact⟨i+1,by omega,by go_num,HB6.out⟩
       case measure=>simp[intOf];omega
      ·have hr0:S.r.length=0:=by rw[HBS.out.left HR.out (UM (qZ HO.out HL.out) (by omega) hlt HSP.out)];rfl
       have hs0:((S.r.length:Nat):Int)=0:=by omega
       go_wp2_with fail;refine(yR HZ5.out HG5.out HR.out).mono ?_;rintro e w6 ⟨qa6,qc6,ad6,cp6,la6,lc6,rfl,hb6,_,_⟩;have HB6:=aA (aB HB5.out hb6)
       rw[hr0];clear hb6;go_wp2;go_roundw;case rel=>exact⟨i+1,by omega,by go_num,HB6.out⟩
       case measure=>simp[intOf];omega
    ·have hie:i=k:=by omega
     subst hie;have hnl:¬(i:Int)<(i:Int):=by omega
     go_wp2;go_roundw;case rel=>exact⟨i+1,by omega,by omega,by go_num,HBi.out⟩
     case measure=>simp[intOf];omega
  ·have hkn:k=n:=by omega
   subst hkn;have hkl:¬(k:Int)<(k:Int):=by omega
   clear hBel;go_wp2_with fail;refine(JO _ _ _ _ _ _ _ _ (HG.out.below HBk.out)).mono ?_;rw[HL.out];rintro e w9 ⟨rfl,hb9⟩;have HB9:=aA (aB HBk.out hb9)
   clear hb9;go_wp2;go_ret;exact⟨rfl,HB9.out⟩
open Go.RowKit
theorem zQ (w:World) (a0:Option Addr) (len0 cap0:Nat) (s0:LD w a0 len0 cap0):Calls Tryz.prog 3 #[.slice a0 len0 cap0] w fun e w'=>e= .returned (.bool true)∧Below w.heap.size w w':=by
 by_cases c0:(1048576:Int)<(len0:Int)
 ·go_enter Tryz.func3,Tryz.ntmps3;go_wp2;go_ret;exact⟨rfl,bQ _ _⟩
 go_enter Tryz.func3,Tryz.ntmps3;go_wp2_with fail;refine(oW w a0 len0 cap0 s0).mono ?_;rintro e wd ⟨o,la,n,lc,lad,lcp,L,fuel,rfl,hL,hn5,⟨f1,f2⟩,hbd⟩;have HL0:=aA (hL)
 have Z0:=aA (hbd);clear hL hbd s0;obtain⟨⟨m,BL,BP⟩,d,hX⟩:∃(X:Bs) (d:Bool),dK o n L fuel=(X,d):=⟨_,_,rfl⟩
 have hm12:=PR hX;have HX:=aA (hX)
 clear hX;have hm12I:(m:Int)≤12:=by omega
 have hn5I:(n:Int)≤5:=by omega
 go_wp2_with fail;refine(Gm HL0.out HX.out).mono ?_;rintro e w1 ⟨ba,bc,bad,bcp,pa,pc,pA,pC,pAD,pCP,rfl,hb1,hr1,hp1⟩;have bx:=aB hb1 (aC w1 (.cells #[.slice ba m bc,.slice pa m pc,.bool d] 28))
 have bo:=aC w1 (.cells #[.slice ba m bc,.slice pa m pc,.bool d] 28);have HO1:=aA (eI.box w1 28 (.slice ba m bc) (.slice pa m pc) (.bool d))
 have HB1:=aA (hr1.below bo);have HP1:=aA (hp1.below bo)
 have HG1:=aA (HL0.out.below bx);have Z1:=aA (aB Z0.out bx)
 clear hb1 hr1 hp1 bx bo HL0 Z0;go_wp2_with fail;have hS:IZ w1.heap.size (.slice ba m bc) (.slice pa m pc) (.bool d) (w1.alloc (.cells #[.slice ba m bc,.slice pa m pc,.bool d] 28)).drew:=HO1.out.1
 have bd:=(bQ (w1.alloc (.cells #[.slice ba m bc,.slice pa m pc,.bool d] 28)).heap.size (w1.alloc (.cells #[.slice ba m bc,.slice pa m pc,.bool d] 28))).drew;have HOd:=aA (HO1.out.below bd)
 have HBd:=aA (HB1.out.below bd);have HPd:=aA (HP1.out.below bd)
 have HGd:=aA (HG1.out.below bd);have Zd:=aA (aB Z1.out bd)
 clear HO1 HB1 HP1 HG1 Z1 bd;obtain⟨bx,hbx⟩:∃bx,bx=w1.heap.size:=⟨_,rfl⟩
 clear hbx bx
 go_region_held3 (fun u=>u.cell? ⟨w1.heap.size,0,none⟩=some (.slice ba m bc)∧u.cell? ⟨w1.heap.size,1,none⟩=some (.slice pa m pc)∧u.cell? ⟨w1.heap.size,2,none⟩=some (.bool d)) (first|with_reducible exact(IZ.below (IZ.below hS hb3) hb4)|with_reducible exact IZ.below hS hb3|with_reducible exact hS) (first|(go_at_call 12;refine(Hb HGd.out HX.out).mono ?_;rintro e w3 ⟨ca,cc,cad,ccp,qa,qc,qA,qC,qAD,qCP,rfl,hb3,hr3,hp3⟩)|(go_at_call 11;refine(wL w3 m m n d BL BP _ _ _ _ _ _ _ _ (HBd.out.below hb3) hr3 _ _ _ _ _ _ _ _ _ _ _ _ (HPd.out.below hb3) hp3).mono ?_;rintro e w4 ⟨rfl,hb4⟩))
 have HBB:=aA (aB hb3 hb4);have HO:=aA (HOd.out.below HBB.out)
 have HB:=aA (HBd.out.below HBB.out);have HP:=aA (HPd.out.below HBB.out)
 have HG:=aA (HGd.out.below HBB.out);have Z9:=aA (aB Zd.out HBB.out)
 clear hS hb3 hb4 hr3 hp3 HBB HOd HBd HPd HGd Zd;have HLT:=HO.out.lt
 rcases DD HX.out with⟨hm0,hd0⟩|⟨ho,hl,hn,hf,hle,hpre,hlk,hbas,hpf⟩
 ·subst hm0;subst hd0;obtain⟨⟨c0,c1,c2⟩,cz⟩:=HO.out;go_wp2_with fail;refine(pF _).mono ?_;rintro e w1 ⟨rfl,b2⟩;have X3:=aA (HO.out.below b2)
  clear HO;have X4:=aA (HB.out.below b2)
  clear HB;have X5:=aA (HP.out.below b2)
  clear HP;have X6:=aA (HG.out.below b2)
  clear HG;have Z7:=aA (aB Z9.out b2)
  clear Z9;clear b2;go_wp2;go_ret;exact⟨rfl,Z7.out⟩
 ·have HBAS:=aA (hbas);have HLK:=aA (hlk)
  have HPRE:=aA (hpre);have HHO:=aA (ho)
  clear hbas hlk hpre ho hl hpf hf;have hm1:1≤m:=by omega
  have hmz:((m:Int)==0)=false:=beq_eq_false_iff_ne.2 (by omega);have hmn:¬(m:Int)<(n:Int):=by omega
  have hmm:((m:Int)!=(m:Int))=false:=by simp
  have hcap:m≤bc:=HB.out.1;have hcapI:(n:Int)≤(bc:Int):=by omega
  obtain⟨⟨c0,c1,c2⟩,cz⟩:=HO.out;have HT:=aA (BO (BR HB.out hle) HPRE.out)
  obtain⟨bb,off,rfl,hlb,_⟩:=HB.out.2.2.1.resolve_left (by omega);go_wp2_with fail;refine(sR HT.out HG.out).mono ?_;rintro e w5 ⟨rfl,hb5⟩;clear c0 c1 c2 cz;have X8:=aA (HO.out.below hb5)
  clear HO;have X9:=aA (HB.out.below hb5)
  clear HB;have X10:=aA (HP.out.below hb5)
  clear HP;have X11:=aA (HG.out.below hb5)
  clear HG;have Z12:=aA (aB Z9.out hb5)
  clear Z9;clear hb5;obtain⟨⟨c0,c1,c2⟩,cz⟩:=X8.out;cases d
  ·go_wp2;go_ret;exact⟨rfl,Z12.out⟩
  ·go_wp2_with fail;refine(SY _ o _ m _ _ _ BL X9.out ⟨hm1,hm12⟩ HHO.out HLK.out (HBAS.out (by simp))).mono ?_;rintro e w6 ⟨rfl,hb6⟩;clear c0 c1 c2 cz;have X13:=aA (X8.out.below hb6)
   clear X8;have X14:=aA (X9.out.below hb6)
   clear X9;have X15:=aA (X10.out.below hb6)
   clear X10;have X16:=aA (X11.out.below hb6)
   clear X11;have Z17:=aA (aB Z12.out hb6)
   clear Z12;clear hb6;go_wp2;go_ret;exact⟨rfl,Z17.out⟩
end Go.Proofs.YtmlaedpamobmhaaGreat
