/-
  The walk of FnIdlSame: whatever the code, it comes out true, and nothing that was there is turned.
-/
import Derived.Test.YtelkehjdfcoeiaaGreatMDaa
set_option maxHeartbeats 8000000
set_option maxRecDepth 100000
namespace Go.Proofs.YtelkehjdfcoeiaaGreat
open Go.RowKit Go.Deep Go.Joins
set_option linter.unusedVariables false
theorem tS {o:Int} {n:Nat} {A:Nat→List T} {n':Nat} {B:Nat→List T} {x y:List (List T)} {s1 s2:Bool} (h1:wU (bQ o n A)=x) (h2:(bQ o n A).isSome=s1) (h3:wU (bQ o n' B)=y) (h4:(bQ o n' B).isSome=s2):jB o n A n' B=(s1&&s2&&GO x.length (bY x) y.length (bY y),s1&&s2):=by
 unfold jB;cases hA:bQ o n A with
 |none=>rw[hA]at h2;rw[←h2];rfl
 |some a=>
  cases hB:bQ o n' B with
  |none=>rw[hA]at h2;rw[hB]at h4;rw[←h2,←h4];rfl
  |some b=>
   rw[hA]at h1 h2;rw[hB]at h3 h4;rw[←h2,←h4,←h1,←h3];rfl
theorem ZD (n:Nat) (L:Nat→List T) (n':Nat) (L':Nat→List T):GO n L n' L'=GO n' L' n L:=by
 cases h:GO n' L' n L
 ·cases h2:GO n L n' L'
  ·rfl
  ·obtain⟨e,e2⟩:=oF.1 h2;rw[oF.2 ⟨e.symm,fun i hi=>(e2 i (by omega)).symm⟩]at h;cases h
 ·obtain⟨e,e2⟩:=oF.1 h;exact oF.2 ⟨e.symm,fun i hi=>(e2 i (by omega)).symm⟩
theorem DF (w:World) (a0:Option Addr) (len0 cap0:Nat) (s0:QC w a0 len0 cap0):Calls Tryz.prog 5 #[.slice a0 len0 cap0] w fun e w'=>e= .returned (.bool true)∧Below w.heap.size w w':=by
 by_cases c0:(1048576:Int)<(len0:Int)
 ·go_enter Tryz.func5,Tryz.ntmps5;go_wp2;go_ret;exact⟨rfl,bG _ _⟩
 go_enter Tryz.func5,Tryz.ntmps5;go_wp2_with fail;refine(JS _ _ _ _ s0).mono ?_;rintro e w1 ⟨o,a,n,c,ad,cp,L,a',n',c',ad',cp',L',rfl,hr,hn,hr',hn',b1⟩;have KA:=aA hr.keep
 have KB:=aA hr'.keep;have HB1:=aA b1
 have hnI:(n:Int)≤5:=by omega
 have hnI':(n':Int)≤5:=by omega
 clear s0 hr hr' b1;obtain⟨x,hx⟩:∃x,wU (bQ o n L)=x:=⟨_,rfl⟩
 obtain⟨s1,hs1⟩:∃x,(bQ o n L).isSome=x:=⟨_,rfl⟩
 obtain⟨y,hy⟩:∃x,wU (bQ o n' L')=x:=⟨_,rfl⟩
 obtain⟨s2,hs2⟩:∃x,(bQ o n' L').isSome=x:=⟨_,rfl⟩
 obtain⟨q,hq⟩:∃q,GO x.length (bY x) y.length (bY y)=q:=⟨_,rfl⟩
 have e1:jB o n L n' L'=(s1&&s2&&q,s1&&s2):=by rw[tS hx hs1 hy hs2,hq]
 have e2:jB o n' L' n L=(s1&&s2&&q,s1&&s2):=by rw[tS hy hs2 hx hs1,ZD,hq,Bool.and_comm s2 s1]
 have e3:jB o n L n L=(s1,s1):=by rw[tS hx hs1 hx hs1,rR];cases s1<;>rfl
 have HS1:Hid (∀W,Below w1.heap.size w1 W→Calls Tryz.prog 25 #[.int .i64 o,.slice a n c,.slice a' n' c'] W fun r w'=>r= .returned (.tuple #[.bool (s1&&s2&&q),.bool (s1&&s2)])∧Below W.heap.size W w'):=fun W hW=>by have:=AY W o a a' n c n' c' ad ad' cp cp' L L' (KA.out W hW) (KB.out W hW);rw[e1]at this;exact this
 have HS2:Hid (∀W,Below w1.heap.size w1 W→Calls Tryz.prog 26 #[.int .i64 o,.slice a n c,.slice a' n' c'] W fun r w'=>r= .returned (.tuple #[.bool (s1&&s2&&q),.bool (s1&&s2)])∧Below W.heap.size W w'):=fun W hW=>by have:=YO W o a a' n c n' c' ad ad' cp cp' L L' (KA.out W hW) (KB.out W hW);rw[e1]at this;exact this
 have HS3:Hid (∀W,Below w1.heap.size w1 W→Calls Tryz.prog 25 #[.int .i64 o,.slice a' n' c',.slice a n c] W fun r w'=>r= .returned (.tuple #[.bool (s1&&s2&&q),.bool (s1&&s2)])∧Below W.heap.size W w'):=fun W hW=>by have:=AY W o a' a n' c' n c ad' ad cp' cp L' L (KB.out W hW) (KA.out W hW);rw[e2]at this;exact this
 have HS4:Hid (∀W,Below w1.heap.size w1 W→Calls Tryz.prog 25 #[.int .i64 o,.slice a n c,.slice a n c] W fun r w'=>r= .returned (.tuple #[.bool s1,.bool s1])∧Below W.heap.size W w'):=fun W hW=>by have:=AY W o a a n c n c ad ad cp cp L L (KA.out W hW) (KA.out W hW);rw[e3]at this;exact this
 have HO1:Hid (∀W,Below w1.heap.size w1 W→Calls Tryz.prog 17 #[.int .i64 o,.slice a n c] W (XB W x s1)):=fun W hW=>xG (KA.out W hW) hx hs1;have HO2:Hid (∀W,Below w1.heap.size w1 W→Calls Tryz.prog 17 #[.int .i64 o,.slice a' n' c'] W (XB W y s2)):=fun W hW=>xG (KB.out W hW) hy hs2
 have HQ:=aA hq;clear hx hs1 hy hs2 hq e1 e2 e3;obtain⟨N1,hN1⟩:∃N,x.length=N:=⟨_,rfl⟩
 obtain⟨N2,hN2⟩:∃N,y.length=N:=⟨_,rfl⟩
 have HN1:=aA hN1;have HN2:=aA hN2
 clear hN1 hN2;go_wp2_with fail;refine(HS1.out w1 (bG _ _)).mono ?_;rintro e w2 ⟨rfl,hb⟩;have B2:=aA hb
 clear hb;go_wp2_with fail;refine(HS2.out w2 B2.out).mono ?_;rintro e w3 ⟨rfl,hb⟩;have B3:=aA (aB B2.out hb)
 clear hb;have q1:((s1&&s2&&q)!=(s1&&s2&&q))=false:=by simp
 have q2:((s1&&s2)!=(s1&&s2))=false:=by simp
 obtain⟨u1,hu1⟩:∃u,(s1&&s2&&q)=u:=⟨_,rfl⟩
 obtain⟨u2,hu2⟩:∃u,(s1&&s2)=u:=⟨_,rfl⟩
 have HU1:=aA hu1;have HU2:=aA hu2
 rw[hu1]at q1 HS3⊢;rw[hu2]at q2 HS3⊢;clear hu1 hu2 HS1 HS2;go_wp2_with fail;refine(HO1.out w3 B3.out).mono ?_;rintro e w4 ⟨xa,xc,xad,xcp,rfl,hb,hx⟩;have B4:=aA (aB B3.out hb)
 have KX:=aA hx.keep;clear hb hx;go_wp2_with fail;refine(HO2.out w4 B4.out).mono ?_;rintro e w5 ⟨ya,yc,yad,ycp,rfl,hb,hy⟩;have B5:=aA (aB B4.out hb)
 have KX5:=aA (KX.out.next hb);have KY:=aA hy.keep
 clear hb hy KX;go_wp2_with fail;refine(HS3.out w5 B5.out).mono ?_;rintro e w6 ⟨rfl,hb⟩;have B6:=aA (aB B5.out hb)
 have KX6:=aA (KX5.out.next hb);have KY6:=aA (KY.out.next hb)
 clear hb KX5 KY;go_wp2_with fail;refine(HS4.out w6 B6.out).mono ?_;rintro e w7 ⟨rfl,hb⟩;have B7:=aA (aB B6.out hb)
 have KX7:=aA (KX6.out.next hb);have KY7:=aA (KY6.out.next hb)
 clear hb KX6 KY6;have HE:Hid (∀W,Below w7.heap.size w7 W→Calls Tryz.prog 19 #[.slice xa x.length xc,.slice ya y.length yc] W (NX W (.bool q))):=fun W hW=>by have:=vK W xa ya x.length xc y.length yc _ _ _ _ (bY x) (bY y) (KX7.out W hW) (KY7.out W hW);rw[HQ.out]at this;exact this
 rw[HN1.out,HN2.out]at HE⊢;cases s1
 ·have e1:u1=false:=HU1.out.symm;have e2:u2=false:=HU2.out.symm
  subst e1 e2;cases s2
  ·go_wp2_with fail;refine(nC _).mono ?_;rintro e w8 ⟨rfl,hb⟩;have B8:=aA (aB B7.out hb)
   clear hb;go_wp2;go_ret;exact⟨rfl,aB HB1.out B8.out⟩
  ·go_wp2_with fail;refine(nC _).mono ?_;rintro e w8 ⟨rfl,hb⟩;have B8:=aA (aB B7.out hb)
   clear hb;go_wp2;go_ret;exact⟨rfl,aB HB1.out B8.out⟩
 ·cases s2
  ·have e1:u1=false:=HU1.out.symm;have e2:u2=false:=HU2.out.symm
   subst e1 e2;go_wp2_with fail;refine(nC _).mono ?_;rintro e w8 ⟨rfl,hb⟩;have B8:=aA (aB B7.out hb)
   clear hb;go_wp2;go_ret;exact⟨rfl,aB HB1.out B8.out⟩
  ·have e1:u1=q:=HU1.out.symm;have e2:u2=true:=HU2.out.symm
   subst e1 e2;have hqq:(u1==u1)=true:=by simp
   go_wp2_with fail;refine(HE.out w7 (bG _ _)).mono ?_;rintro e w8 ⟨rfl,hb⟩;have B8:=aA (aB B7.out hb)
   clear hb;go_wp2_with fail;refine(nC _).mono ?_;rintro e w9 ⟨rfl,hb⟩;have B9:=aA (aB B8.out hb)
   clear hb;go_wp2;go_ret;exact⟨rfl,aB HB1.out B9.out⟩
end Go.Proofs.YtelkehjdfcoeiaaGreat
