/-
  A sum of products of two lists: the program's RedSum.
  A division on its way, as lists: what a step does, and what stays true.
  The greatest term of a sum while it is made.
-/
import Derived.Test.YtmlaedpamobmhaaGreatMGab
import Derived.Test.YtmlaedpamobmhaaGreatMBah
import Derived.Test.YtmlaedpamobmhaaGreatMBag
set_option maxHeartbeats 8000000
set_option maxRecDepth 100000
namespace Go.Proofs.YtmlaedpamobmhaaGreat
open Go.RowKit Go.Deep Go.Joins
set_option linter.unusedVariables false
theorem ZE (w:World) (a1:Option Addr) (n1 c1:Nat) (ad1:Nat→Option Addr) (ln1 cp1:Nat→Nat) (f1:Nat→Nat→T) (h1:eJ w a1 n1 c1 ad1 ln1 cp1 f1) (a2:Option Addr) (n2 c2:Nat) (ad2:Nat→Option Addr) (ln2 cp2:Nat→Nat) (f2:Nat→Nat→T) (h2:eJ w a2 n2 c2 ad2 ln2 cp2 f2):Calls Tryz.prog 16 #[.slice a1 n1 c1,.slice a2 n2 c2] w fun r w'=>∃a c,r= .returned (.tuple #[.slice a (iX n1 ln1 f1 n2 ln2 f2).1.length c,.bool (iX n1 ln1 f1 n2 ln2 f2).2])∧Below w.heap.size w w'∧iA w.heap.size w' a c (iX n1 ln1 f1 n2 ln2 f2).1:=by
 have q1:(n1:Int)≤140737488351232:=by have:=h1.2.1;omega
 have q2:(n2:Int)≤140737488351232:=by have:=h2.2.1;omega
 have HB0:=aA (aQ w (.cells #[.slice a1 n1 c1] 23) (.cells #[.slice a2 n2 c2] 23));have H1:=aA (h1.below HB0.out)
 have H2:=aA (h2.below HB0.out);clear h1 h2;by_cases hn:n1=n2∧n2≤12
 ·obtain⟨hn1,hn2⟩:=hn;have HE:Hid (iX n1 ln1 f1 n2 ln2 f2=iK (jZ ln1 f1 ln2 f2 n2)):=if_pos ⟨hn1,hn2⟩
  subst hn1;have hne:((n1:Int)!=(n1:Int))=false:=by simp
  have hng:¬(12:Int)<(n1:Int):=by omega
  have hsz:((w.alloc (.cells #[.slice a1 n1 c1] 23)).alloc (.cells #[.slice a2 n1 c2] 23)).heap.size=w.heap.size+2:=by simp
  have k0:((w.alloc (.cells #[.slice a1 n1 c1] 23)).alloc (.cells #[.slice a2 n1 c2] 23)).cell? ⟨w.heap.size,0,none⟩=some (.slice a1 n1 c1):=by simp[go_sem]
  have k1:((w.alloc (.cells #[.slice a1 n1 c1] 23)).alloc (.cells #[.slice a2 n1 c2] 23)).cell? ⟨w.heap.size+1,0,none⟩=some (.slice a2 n1 c2):=by simp[go_sem]
  obtain⟨w0,hw0⟩:∃w0,((w.alloc (.cells #[.slice a1 n1 c1] 23)).alloc (.cells #[.slice a2 n1 c2] 23))=w0:=⟨_,rfl⟩
  have HS1:Hid (Calls Tryz.prog 47 #[.pointer (some ⟨w.heap.size,0,none⟩),.pointer (some ⟨w.heap.size+2,0,none⟩),.pointer (some ⟨w.heap.size+1,0,none⟩)] (((w.alloc (.cells #[.slice a1 n1 c1] 23)).alloc (.cells #[.slice a2 n1 c2] 23)).alloc (.cells #[.slice none 0 0] 35)) fun r w'=>eZ w0 (jZ ln1 f1 ln2 f2 n1) r w'):=by have:=Gd ((w.alloc (.cells #[.slice a1 n1 c1] 23)).alloc (.cells #[.slice a2 n1 c2] 23)) (((w.alloc (.cells #[.slice a1 n1 c1] 23)).alloc (.cells #[.slice a2 n1 c2] 23)).alloc (.cells #[.slice none 0 0] 35)) w.heap.size (w.heap.size+1) n1 a1 c1 ad1 ln1 cp1 f1 H1.out a2 c2 ad2 ln2 cp2 f2 H2.out k0 k1 (aC _ _) (by rw[World.cell?_alloc_at _ _ _ _ rfl];rfl) (by rw[World.frozen?_alloc_at _ _ _ _ rfl]);rw[hsz,hw0]at this;rw[hw0];exact this
  have hsz0:w0.heap.size=w.heap.size+2:=by rw[←hw0];exact hsz
  have hBw:Below w.heap.size w w0:=by rw[←hw0];exact HB0.out
  have HBW:=aA hBw;clear hBw k0 k1;cases hS:jZ ln1 f1 ln2 f2 n1 with
  |some K=>
   have e2:iX n1 ln1 f1 n1 ln2 f2=(K,true):=by rw[HE.out,hS];rfl
   rw[e2]
   have HC:=aA (mG 47 #[.pointer (some ⟨w.heap.size,0,none⟩),.pointer (some ⟨w.heap.size+2,0,none⟩),.pointer (some ⟨w.heap.size+1,0,none⟩)] (((w.alloc (.cells #[.slice a1 n1 c1] 23)).alloc (.cells #[.slice a2 n1 c2] 23)).alloc (.cells #[.slice none 0 0] 35)) (fun w'=>Below w0.heap.size w0 w'∧∃a c,w'.cell? ⟨w.heap.size+2,0,none⟩=some (.slice a K.length c)∧iA (w.heap.size+3) w' a c K) (enters_of Tryz.func47 (by kernel_rfl) rfl) (HS1.out.mono fun r w' h=>by
    rw[hS]at h;rcases h.2 with⟨K',a,c,hK,_,hr,hcl,ho⟩|⟨hno,_⟩
    ·cases hK;rw[hsz0]at hcl ho;exact⟨hr,h.1,a,c,hcl,ho⟩
    ·cases hno))
   clear HS1 e2 hS hw0 hsz;go_enter Tryz.func16,Tryz.ntmps16;go_wp2_with fail;refine HC.out.mono ?_;rintro r w3 ⟨rfl,w1,⟨hb,a,c,hcl,hout⟩,rfl⟩;have g1:(w1.alloc (.cells #[] 114)).cell? ⟨w.heap.size+2,0,none⟩=some (.slice a K.length c):=((aC w1 _).cell (p:=⟨w.heap.size+2,0,none⟩) (cE w1 _ hcl)).trans hcl
   have HB3:=aA (aB (aB HBW.out hb) (aC w1 (.cells #[] 114)));have HO3:=aA ((hout.below (aC w1 (.cells #[] 114))).low (lo':=w.heap.size) (by omega))
   clear hb hcl hout HC;go_wp2;refine cW (results_tmp2 rfl _ _ _) rfl ?_;exact⟨a,c,rfl,HB3.out,HO3.out⟩
  |none=>
   have e2:iX n1 ln1 f1 n1 ln2 f2=([],false):=by rw[HE.out,hS];rfl
   rw[e2]
   have HC:=aA (rQ 47 #[.pointer (some ⟨w.heap.size,0,none⟩),.pointer (some ⟨w.heap.size+2,0,none⟩),.pointer (some ⟨w.heap.size+1,0,none⟩)] (((w.alloc (.cells #[.slice a1 n1 c1] 23)).alloc (.cells #[.slice a2 n1 c2] 23)).alloc (.cells #[.slice none 0 0] 35)) (fun w'=>Below w0.heap.size w0 w') (enters_of Tryz.func47 (by kernel_rfl) rfl) (HS1.out.mono fun r w' h=>by
    rw[hS]at h;rcases h.2 with⟨K',a,c,hK,_⟩|⟨_,hr⟩
    ·cases hK
    ·exact⟨hr,h.1⟩))
   clear HS1 e2 hS hw0 hsz;go_enter Tryz.func16,Tryz.ntmps16;go_wp2_with fail;refine HC.out.mono ?_;rintro r w3 ⟨rfl,w1,hb,rfl⟩;have HB3:=aA (aB (aB HBW.out hb) (aC w1 (.cells #[] 114)))
   clear hb HC;go_wp2;refine cW (results_tmp2 rfl _ _ _) rfl ?_;exact⟨none,0,rfl,HB3.out,iA.nil _ _⟩
 ·have HE:Hid (iX n1 ln1 f1 n2 ln2 f2=([],false)):=if_neg hn;by_cases he:n1=n2
  ·subst he;have hne:((n1:Int)!=(n1:Int))=false:=by simp
   have hng:(12:Int)<(n1:Int):=by omega
   go_enter Tryz.func16,Tryz.ntmps16;go_wp2;refine cW (results_tmp2 rfl _ _ _) rfl ?_;rw[HE.out];exact⟨none,0,rfl,HB0.out,iA.nil _ _⟩
  ·have hne:((n1:Int)!=(n2:Int))=true:=by simp;omega
   go_enter Tryz.func16,Tryz.ntmps16;go_wp2;refine cW (results_tmp2 rfl _ _ _) rfl ?_;rw[HE.out];exact⟨none,0,rfl,HB0.out,iA.nil _ _⟩
open Go.RowKit Go.Deep Go.Joins Go.Maps
theorem Dc {w:World} {a1:Option Addr} {n1 c1:Nat} {ad1:Nat→Option Addr} {ln1 cp1:Nat→Nat} {f1:Nat→Nat→T} (h1:eJ w a1 n1 c1 ad1 ln1 cp1 f1) {a2:Option Addr} {n2 c2:Nat} {ad2:Nat→Option Addr} {ln2 cp2:Nat→Nat} {f2:Nat→Nat→T} (h2:eJ w a2 n2 c2 ad2 ln2 cp2 f2):Calls Tryz.prog 16 #[.slice a1 n1 c1,.slice a2 n2 c2] w (CH w (iX n1 ln1 f1 n2 ln2 f2)):=
 (ZE w a1 n1 c1 ad1 ln1 cp1 f1 h1 a2 n2 c2 ad2 ln2 cp2 f2 h2).mono fun _ _ h=>ED h
open Go.RowKit
theorem wJ (w:World) (a0:Option Addr) (len0 cap0:Nat) (s0:LD w a0 len0 cap0):Calls Tryz.prog 4 #[.slice a0 len0 cap0] w fun e w'=>e= .returned (.bool true)∧Below w.heap.size w w':=by
 by_cases c0:(1048576:Int)<(len0:Int)
 ·go_enter Tryz.func4,Tryz.ntmps4;go_wp2;go_ret;exact⟨rfl,bQ _ _⟩
 go_enter Tryz.func4,Tryz.ntmps4;go_wp2_with fail;refine(oW w a0 len0 cap0 s0).mono ?_;rintro e wd ⟨o,la,n,lc,lad,lcp,L,fuel,rfl,hL,hn5,⟨f1,f2⟩,hbd⟩;have HL0:=aA (hL)
 have Z0:=aA (hbd);clear hL hbd s0;obtain⟨⟨m,BL,BP⟩,d,hX⟩:∃(X:Bs) (d:Bool),dK o n L fuel=(X,d):=⟨_,_,rfl⟩
 have hm12:=PR hX;have HX:=aA (hX)
 clear hX;have hm12I:(m:Int)≤12:=by omega
 have hn5I:(n:Int)≤5:=by omega
 go_wp2_with fail;refine(Gm HL0.out HX.out).mono ?_;rintro e w1 ⟨ba,bc,bad,bcp,pa,pc,pA,pC,pAD,pCP,rfl,hb1,hr1,hp1⟩;have bx:=aB hb1 (aC w1 (.cells #[.slice ba m bc,.slice pa m pc,.bool d] 28))
 have bo:=aC w1 (.cells #[.slice ba m bc,.slice pa m pc,.bool d] 28);have HO1:=aA (eI.box w1 28 (.slice ba m bc) (.slice pa m pc) (.bool d))
 have HB1:=aA (hr1.below bo);have HP1:=aA (hp1.below bo)
 have HG1:=aA (HL0.out.below bx);have Z1:=aA (aB Z0.out bx)
 clear hb1 hr1 hp1 bx bo HL0 Z0;go_wp2_with fail;have hS:IZ w1.heap.size (.slice ba m bc) (.slice pa m pc) (.bool d) (w1.alloc (.cells #[.slice ba m bc,.slice pa m pc,.bool d] 28)).drew:=HO1.out.1
 have bd:=(bQ (w1.alloc (.cells #[.slice ba m bc,.slice pa m pc,.bool d] 28)).heap.size (w1.alloc (.cells #[.slice ba m bc,.slice pa m pc,.bool d] 28))).drew;have HOd:=aA (HO1.out.below bd)
 have HBd:=aA (HB1.out.below bd);have HPd:=aA (HP1.out.below bd)
 have HGd:=aA (HG1.out.below bd);have Zd:=aA (aB Z1.out bd)
 clear HO1 HB1 HP1 HG1 Z1 bd;obtain⟨bx,hbx⟩:∃bx,bx=w1.heap.size:=⟨_,rfl⟩
 clear hbx bx
 go_region_held3 (fun u=>u.cell? ⟨w1.heap.size,0,none⟩=some (.slice ba m bc)∧u.cell? ⟨w1.heap.size,1,none⟩=some (.slice pa m pc)∧u.cell? ⟨w1.heap.size,2,none⟩=some (.bool d)) (first|with_reducible exact(IZ.below (IZ.below hS hb3) hb4)|with_reducible exact IZ.below hS hb3|with_reducible exact hS) (first|(go_at_call 12;refine(Hb HGd.out HX.out).mono ?_;rintro e w3 ⟨ca,cc,cad,ccp,qa,qc,qA,qC,qAD,qCP,rfl,hb3,hr3,hp3⟩)|(go_at_call 11;refine(wL w3 m m n d BL BP _ _ _ _ _ _ _ _ (HBd.out.below hb3) hr3 _ _ _ _ _ _ _ _ _ _ _ _ (HPd.out.below hb3) hp3).mono ?_;rintro e w4 ⟨rfl,hb4⟩))
 have HBB:=aA (aB hb3 hb4);have HO:=aA (HOd.out.below HBB.out)
 have HB:=aA (HBd.out.below HBB.out);have HP:=aA (HPd.out.below HBB.out)
 have HG:=aA (HGd.out.below HBB.out);have Z9:=aA (aB Zd.out HBB.out)
 clear hS hb3 hb4 hr3 hp3 HBB HOd HBd HPd HGd Zd;have HLT:=HO.out.lt
 have hpf:∀i,i<m→∀x,iX n (lN (BP i)) (fN (BP i)) n (lN L) (fN L)=(x,true)→x=BL i:=by
  rcases DD HX.out with⟨hm0,hd0⟩|⟨_,_,_,_,_,_,_,_,hpf⟩
  ·intro i hi;omega
  ·exact hpf
 have HPF:=aA (hpf);clear hpf HX;obtain⟨⟨c0,c1,c2⟩,cz⟩:=HO.out;go_wp2;go_loopw [7] (fun vi wr=>∃i:Nat,i≤m∧vi= .int .i64 (i:Int)∧Below w4.heap.size w4 wr) (fun vi _=>m-(intOf vi).toNat);case atStart=>exact⟨0,gY _,rfl,bQ _ _⟩
 case round=>
  obtain⟨i,hi,rfl,hBel⟩:=hrel;have HBW:=aA hBel
  clear c0 c1 c2 cz;have X1:=aA (HO.out.below hBel)
  clear HO;have X2:=aA (HB.out.below hBel)
  clear HB;have X3:=aA (HP.out.below hBel)
  clear HP;have X4:=aA (HG.out.below hBel)
  clear HG;have Z5:=aA (aB Z9.out hBel)
  clear Z9;clear hBel;have hlt1:=X1.out.lt
  by_cases hlt:i<m
  ·have hil:(i:Int)<(m:Int):=by omega
   obtain⟨bb,off,rfl,hlb,hbcl⟩:=X2.out.2.2.1.resolve_left (by omega);obtain⟨pb,pof,rfl,hpb,hpcl⟩:=X3.out.2.2.1.resolve_left (by omega);have p0:=hpcl i hlt
   have b0:=hbcl i hlt;obtain⟨X,xo,hx⟩:∃X b,iX n (lN (BP i)) (fN (BP i)) n (lN L) (fN L)=(X,b):=⟨_,_,rfl⟩
   have HXX:=aA (hx);clear hx;have HBC:=aA (hbcl)
   have HRP:=aA (X3.out.2.2.2 i hlt);clear hbcl hpcl b0;obtain⟨⟨c0,c1,c2⟩,cz⟩:=X1.out;go_wp2_with fail;refine(Dc HRP.out X4.out).mono ?_;rw[HXX.out];rintro e w5 ⟨xa,xc,rfl,hb5,hrx⟩;have HXR:=aA (hrx)
   have HXR2:Hid (RL w5 xa xc X):=HXR.out;clear HXR hrx p0 HRP;clear c0 c1 c2 cz;have HB5:=aA (hb5)
   have X6:=aA (X1.out.below hb5);clear X1;have X7:=aA (X2.out.below hb5)
   clear X2;have X8:=aA (X3.out.below hb5)
   clear X3;have X9:=aA (X4.out.below hb5)
   clear X4;have Ef:=aA (aB Z5.out hb5)
   clear Z5;clear hb5;cases xo
   ·have _h:=HXX;obtain⟨⟨c0,c1,c2⟩,cz⟩:=X6.out;go_wp2;go_roundw;case rel=>exact⟨i+1,by omega,by go_num,aB HBW.out HB5.out⟩
    case measure=>simp[intOf];omega
   ·have hxe:=HPF.out i hlt X HXX.out;have HXE:=aA (hxe)
    clear hxe;have HRB:=aA (X7.out.2.2.2 i hlt)
    have hbl:BL i=X:=HXE.out.symm;have HRB2:Hid (RL w5 (bad i) (bcp i) X):=by rw[←hbl];exact HRB.out
    obtain⟨bb2,off2,e2,_,hbc2⟩:=X7.out.2.2.1.resolve_left (by omega);cases e2;have b0:w5.cell? ⟨bb,off+i,none⟩=some (.slice (bad i) X.length (bcp i)):=by rw[←hbl];exact hbc2 i hlt
    clear hbc2 hbl HRB HXE;obtain⟨⟨c0,c1,c2⟩,cz⟩:=X6.out;go_wp2_with fail;refine(Eo HXR2.out HRB2.out).mono ?_;rw[wV];rintro e w6 ⟨rfl,hb6⟩;go_wp2;go_roundw;case rel=>exact⟨i+1,by omega,by go_num,aB HBW.out (aB HB5.out hb6)⟩
    case measure=>simp[intOf];omega
  ·have hnl:¬(i:Int)<(m:Int):=by omega
   obtain⟨⟨c0,c1,c2⟩,cz⟩:=X1.out;go_wp2_with fail;refine(pF _).mono ?_;rintro e w11 ⟨rfl,b12⟩;have X13:=aA (X1.out.below b12)
   clear X1;have X14:=aA (X2.out.below b12)
   clear X2;have X15:=aA (X3.out.below b12)
   clear X3;have X16:=aA (X4.out.below b12)
   clear X4;have Z17:=aA (aB Z5.out b12)
   clear Z5;clear b12;go_wp2;go_ret;exact⟨rfl,Z17.out⟩
end Go.Proofs.YtmlaedpamobmhaaGreat
