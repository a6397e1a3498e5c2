/-
  What the exact laws lean on besides: terms in memory behind marks elsewhere.
-/
import Derived.Test.YtncffcaabnjioaaGreatMbp
set_option maxHeartbeats 4000000
set_option maxRecDepth 100000
namespace Go.Proofs.YtncffcaabnjioaaGreat
open Go.RowKit
set_option linter.unusedVariables false
theorem XW (c x y d e:Int) (w:World):Calls Tryz.prog 53 #[.int .i64 c,.agg #[.int .i64 x,.int .i64 y,.int .i64 d,.int .i64 e]] w fun r w'=>∃v,r= .returned v∧Below w.heap.size w w'∧w'.ownsRow w.heap.size 47 5 v (iJ c ⟨x,y,d,e⟩).length (aF (iJ c ⟨x,y,d,e⟩)):=by
 have bx:∀o:Obj,Below w.heap.size w (w.alloc o):=fun o=>(cE _ _).alloc (Nat.le_refl _) _;by_cases hc:1≤c∧c≤100
 ·obtain⟨c1,c2⟩:=hc;cases hm:M.ok ⟨x,y,d,e⟩
  ·have e1:iJ c ⟨x,y,d,e⟩=[]:=by simp[iJ,hm]
   rw[e1];have BX:=aA bx
   clear e1 bx;go_enter Tryz.func53,Tryz.ntmps53;go_wp2_with (go_at_call 62;refine(bX _ _ _ _ c1 c2).mono ?_;rintro r w' ⟨rfl,rfl⟩);refine(bB hm _).mono ?_;rintro r w1 ⟨rfl,hb⟩;have HB:=aA (aB (BX.out _) hb)
   clear hb;go_wp2;go_ret;exact⟨_,rfl,HB.out.alloc HB.out.size _,cD w1 _ HB.out.size⟩
  ·have e1:iJ c ⟨x,y,d,e⟩=[⟨c,⟨x,y,d,e⟩⟩]:=by simp[iJ,hm,c1,c2]
   rw[e1];have BX:=aA bx
   clear e1 bx;go_enter Tryz.func53,Tryz.ntmps53;go_wp2_with (go_at_call 62;refine(bX _ _ _ _ c1 c2).mono ?_;rintro r w' ⟨rfl,rfl⟩);refine(bB hm _).mono ?_;rintro r w1 ⟨rfl,hb⟩;obtain⟨hcl,hf⟩:=aO hb;have HB:=aA (aB (BX.out _) hb)
   clear hb;go_wp2;go_ret;exact⟨_,rfl,HB.out.alloc HB.out.size _,World.ownsRow_lit w1 #[.int .i64 c,.int .i64 x,.int .i64 y,.int .i64 d,.int .i64 e] 1 HB.out.size (by decide) rfl⟩
 ·have e1:iJ c ⟨x,y,d,e⟩=[]:=by simp[iJ,hc]
  rw[e1];have hc':c<1∨(1≤c∧100<c):=by omega
  have BX:=aA bx;clear e1 bx hc;go_enter Tryz.func53,Tryz.ntmps53;go_wp2_with (go_at_call 62;refine(dJ _ _ _ _ hc').mono ?_;rintro r w' ⟨rfl,rfl⟩);go_ret;refine⟨_,rfl,(BX.out _).alloc (BX.out _).size _,?_⟩;have ho:=cD (w.alloc (.cells #[.int .i64 x,.int .i64 y,.int .i64 d,.int .i64 e] 45)) w.heap.size (BX.out _).size
  simpa using ho
theorem PO {pa:Option Addr} {m B N:Nat} (hblk:m=0∨∃g off,pa=some ⟨g,off,none⟩∧N≤g) (hB:B<N):m=0∨∀b off,pa=some ⟨b,off,none⟩→b≠B:=hblk.imp id (fun⟨g,off,he,hg⟩ b off' hb=>by rw[he]at hb;cases hb;omega)
def VX (w:World) (n m:Nat) (e:Ending) (w':World):Prop:=∃(a1:Option Addr) (c1:Nat) (A:List T) (b1:Option Addr) (c2:Nat) (B:List T),e= .returned (.tuple #[.slice a1 A.length c1,.slice b1 B.length c2])∧RL w' a1 c1 A∧RL w' b1 c2 B∧A.length≤n∧B.length≤m∧Below w.heap.size w w'
theorem JA {w w':World} {a1 b1:Option Addr} {n1 c1 n2 c2 n m:Nat} {f g:Nat→T} (h1:Rd w' a1 n1 c1 f) (h2:Rd w' b1 n2 c2 g) (l1:n1≤n) (l2:n2≤m) (hb:Below w.heap.size w w'):VX w n m (.returned (.tuple #[.slice a1 n1 c1,.slice b1 n2 c2])) w':=by obtain⟨A,rfl,hA⟩:=vD h1;obtain⟨B,rfl,hB⟩:=vD h2;exact⟨_,_,A,_,_,B,rfl,hA,hB,l1,l2,hb⟩
variable {w:World} {a b:Option Addr} {ca cb:Nat} {L K:List T}
theorem sQ (ha:RL w a ca L) (hb:RL w b cb K):Calls Tryz.prog 16 #[.slice a L.length ca,.slice b K.length cb] w (zS w (lF L K)):=
 (vJ w a b L.length ca K.length cb (lf L) (lf K) ha hb).mono fun _ _ h=>BS h
theorem mT (w:World) (a:Option Addr) (len cap:Nat) (h:EV w a len cap):Calls Tryz.prog 15 #[.slice a len cap] w (VX w 5 5):=by
 go_enter Tryz.func15,Tryz.ntmps15;go_wp2_with fail;refine(DL _ _ _ _ h).mono ?_;rintro e w1 ⟨rfl,hR1,b1⟩;have hl1:=hR1.lt
 clear h;go_wp2_with fail;refine(uZ w1 _ _ 24 hR1 (by omega) (by omega) (by omega)).mono ?_;rintro e w2 ⟨pa,m,pc,f,q,rfl,hrd,hm,hblk,hq,hR2,s2⟩;have b2:=s2.below b1 (Nat.le_refl _) (by omega)
 have hne:=PO hblk hl1;have hs2:=s2.size
 clear hR1 s2 b1 hblk;go_wp2_with fail;refine(uZ w2 _ _ 24 hR2 (by omega) (by omega) (by omega)).mono ?_;rintro e w3 ⟨pa',m',pc',g,q',rfl,hrd',hm',hblk',hq',hR3,s3⟩;have b3:=s3.below b2 (Nat.le_refl _) (by omega)
 have hne':=PO hblk' (show w.heap.size<w2.heap.size by omega);have hrd3:=hrd.beside s3 hne
 have hs3:=s3.size;clear hR2 s3 b2 hblk' hrd;go_wp2_with fail;refine(aY w3 _ _ 24 hR3 (by omega) (by omega) (by omega)).mono ?_;rintro e w4 ⟨j,rfl,j0,j1,hk⟩;have HB4:=aA (hk.beside.below b3 (Nat.le_refl _) (by omega))
 have HA4:=aA (hrd3.beside hk.beside hne);have HG4:=aA (hrd'.beside hk.beside hne')
 clear hk hR3 b3 hrd3 hrd' hne hne' hs2 hs3 hl1 hq hq';by_cases hj:j=0
 ·subst hj;go_wp2_with fail;refine(XW 1 15 0 14 0 _).mono ?_;rintro e w5 ⟨v5,rfl,hb5,ho5⟩;have hl5:(iJ 1 ⟨15,0,14,0⟩).length≤1:=by unfold iJ;split<;>simp
  obtain⟨a5,c5,hv5,hout5⟩:=aH ho5 (by omega);subst hv5;have HB5:=aA (aB HB4.out hb5)
  have HA5:=aA (HA4.out.below hb5);have HR5:=aA hout5.1
  clear hb5 ho5 hout5;go_wp2;refine cB (results_tmp2 rfl _ _ _) rfl ?_;exact JA HA5.out HR5.out hm (by omega) HB5.out
 ·have hjb:(j==0)=false:=by simp[hj]
  go_wp2;refine cB (results_tmp2 rfl _ _ _) rfl ?_;exact JA HA4.out HG4.out hm hm' HB4.out
end Go.Proofs.YtncffcaabnjioaaGreat
namespace Go.Proofs.YtncffcaabnjioaaGreat
open Go.RowKit
set_option linter.unusedVariables false
open Go.RowKit Go.Deep Go.Joins
theorem SJ {A B P:List T} (h:lF A B=(P,true)):cT A=true∧cT B=true:=by
 unfold lF bJ at h;split at h
 ·assumption
 ·cases h
theorem wW {n:Nat} {L:Nat→List T} {q P:List T} {B:List T} (hB:fQ n L (Rp aI B)) (h:lF q B=(P,true)):fQ n L (Rp aI P):=by rw[qI aI h];exact hB.mulRp q (wC (aE (SJ h).1).2)
end Go.Proofs.YtncffcaabnjioaaGreat
