/-
  RedAll, of the program and of the model: one answer.
  What is left of a pair of operators: the program and the model.
  GrbIn: the program and the model.
-/
import Derived.Test.YtmlaedpamobmhaaGreatMbg
set_option maxHeartbeats 8000000
set_option maxRecDepth 100000
namespace Go.Proofs.YtmlaedpamobmhaaGreat
open Go.RowKit Go.Deep Go.Joins Go.Maps
set_option linter.unusedVariables false
def GS (n:Nat):Option Dv→Nat
 |some _=>n
 |none=>0
def VL:Option Dv→Nat→List T
 |some S=>S.q
 |none=>fun _=>[]
def QM:Option Dv→List T
 |some S=>S.r
 |none=>[]
theorem yQ (w:World) (o:Int) (pa:Option Addr) (pc:Nat) (p:List T) (a:Option Addr) (n cap:Nat) (ad:Nat→Option Addr) (ln cp:Nat→Nat) (f:Nat→Nat→T) (hp:RL w pa pc p) (h:eJ w a n cap ad ln cp f) {R:Option Dv} (hR:bJ o p n ln f=R):Calls Tryz.prog 23 #[.int .i64 o,.slice pa p.length pc,.slice a n cap] w fun r w'=>∃qa qc ad cp Rb B la lc mid,r= .returned (.tuple #[.slice qa (GS n R) qc,.slice la (QM R).length lc,.bool R.isSome])∧Below w.heap.size w w'∧jC w.heap.size w' qa (GS n R) qc ad (fun i=>(VL R i).length) cp (fun i=>lf (VL R i)) Rb B∧iA mid w' la lc (QM R)∧(GS n R=0∨Rb<mid)∧(∀i,i<GS n R→(VL R i).length≠0→B i<mid)∧w.heap.size≤mid:=by
 refine(ZD w o pa pc p a n cap ad ln cp f hp h).mono ?_;rw[hR];rintro r w' ⟨hb,⟨S,qa,qc,ad,cp,Rb,B,la,lc,mid,rfl,rfl,h1,h2,h3,h4,h5⟩|⟨rfl,rfl⟩⟩
 ·exact⟨qa,qc,ad,cp,Rb,B,la,lc,mid,rfl,hb,h1,h2,h3,h4,h5⟩
 ·exact⟨none,0,fun _=>none,fun _=>0,0,fun _=>0,none,0,w.heap.size,rfl,hb,⟨⟨Nat.le_refl _,gY _,.inl rfl,fun i hi=>absurd hi (NX _)⟩,.inl rfl,fun i hi=>absurd hi (NX _),fun i hi=>absurd hi (NX _),fun i j _ hj=>absurd hj (NX _)⟩,⟨⟨Nat.le_refl _,gY _,.inl rfl⟩,.inl rfl,.inl rfl⟩,.inl rfl,fun i hi=>absurd hi (NX _),Nat.le_refl _⟩
open Go.RowKit Go.Deep Go.Joins
theorem SO (w:World) (u v:T) (a b:Option Addr) (n ca m cb:Nat) (f g:Nat→T) (ha:Rd w a n ca f) (hb:Rd w b m cb g):Calls Tryz.prog 60 #[.agg #[.int .i64 u.c,.int .i64 u.m.x,.int .i64 u.m.y,.int .i64 u.m.d,.int .i64 u.m.e,.int .i64 v.c,.int .i64 v.m.x,.int .i64 v.m.y,.int .i64 v.m.d,.int .i64 v.m.e],.slice a n ca,.slice b m cb] w fun r w'=>∃a' cap',r= .returned (.tuple #[.slice a' (iM u v f n g m).1.length cap',.bool (iM u v f n g m).2])∧Below w.heap.size w w'∧iA w.heap.size w' a' cap' (iM u v f n g m).1:=by
 have HA:=aA ha;have HB:=aA hb
 have hla:(n:Int)≤140737488351232:=by have:=ha.2.1;omega
 have hlb:(m:Int)≤140737488351232:=by have:=hb.2.1;omega
 have hc1:=fun(W:World) (A:Nat) (h:RL W (some ⟨A,0,none⟩) 1 [u]) (h':Rd W a n ca f)=>tV W (some ⟨A,0,none⟩) a 1 1 n ca (lf [u]) f h h';have hc2:=fun(W:World) (A:Nat) (h:RL W (some ⟨A,0,none⟩) 1 [v]) (h':Rd W b m cb g)=>tV W (some ⟨A,0,none⟩) b 1 1 m cb (lf [v]) g h h'
 have hl1:=rU (lf [u]) 1 f n;have hl2:=rU (lf [v]) 1 g m
 clear ha hb;unfold iM;generalize aS (lf [u]) 1 f n=p at *;generalize aS (lf [v]) 1 g m=q at *;obtain⟨X,k1⟩:=p;obtain⟨Y,k2⟩:=q;dsimp only at hc1 hc2 hl1 hl2⊢;have hru:=gD (w.alloc (.cells #[.int .i64 u.c,.int .i64 u.m.x,.int .i64 u.m.y,.int .i64 u.m.d,.int .i64 u.m.e,.int .i64 v.c,.int .i64 v.m.x,.int .i64 v.m.y,.int .i64 v.m.d,.int .i64 v.m.e] 89)) u
 rw[World.size_alloc]at hru;have HRU:=aA hru
 have HB0:=aA (aQ w (.cells #[.int .i64 u.c,.int .i64 u.m.x,.int .i64 u.m.y,.int .i64 u.m.d,.int .i64 u.m.e,.int .i64 v.c,.int .i64 v.m.x,.int .i64 v.m.y,.int .i64 v.m.d,.int .i64 v.m.e] 89) (.cells #[.int .i64 u.c,.int .i64 u.m.x,.int .i64 u.m.y,.int .i64 u.m.d,.int .i64 u.m.e] 54));clear hru;have hnil:∀(W:World),iA w.heap.size W none 0 ([]:List T):=fun W=>⟨⟨Nat.le_refl _,by simp,.inl rfl⟩,.inl rfl,.inl rfl⟩
 have HN:=aA hnil;clear hnil;by_cases hk:k1=true∧k2=true
 ·obtain⟨rfl,rfl⟩:=hk;rw[if_pos ⟨rfl,rfl⟩];go_enter Tryz.func60,Tryz.ntmps60;go_wp2_with fail;refine(hc1 _ _ HRU.out (HA.out.below HB0.out)).mono ?_;rintro r w1 ⟨a1,c1,rfl,hb1,ho1⟩;obtain⟨hcc,hff⟩:=aP hb1;have HB1:=aA (aB HB0.out hb1)
  have HX1:=aA ho1.1;have HBV:=aA (HB1.out.alloc HB1.out.size (.cells #[.int .i64 v.c,.int .i64 v.m.x,.int .i64 v.m.y,.int .i64 v.m.d,.int .i64 v.m.e] 54))
  clear hb1 ho1;go_wp2_with fail;clear hcc hff;refine(hc2 _ _ (gD w1 v) (HB.out.below HBV.out)).mono ?_;rintro r w2 ⟨a2,c2,rfl,hb2,ho2⟩;have HB2:=aA (aB HBV.out hb2)
  have HX2:=aA ((HX1.out.below (aC w1 (.cells #[.int .i64 v.c,.int .i64 v.m.x,.int .i64 v.m.y,.int .i64 v.m.d,.int .i64 v.m.e] 54))).below hb2);have HY2:=aA ho2.1
  clear hb2 ho2 HX1 HB1 HBV;go_wp2_with (go_at_call 101;refine(MV _ _ _ _ _ _ _ (lf X) (lf Y) HX2.out HY2.out).mono ?_;rintro r w3 ⟨a3,c3,rfl,hb3,ho3⟩);refine cW (results_tmp2 rfl _ _ _) rfl ?_;exact⟨a3,c3,rfl,aB HB2.out hb3,MN ho3 HB2.out.size⟩
 ·rw[if_neg hk];have hk':(!k1|| !k2)=true:=by cases k1<;>cases k2<;>simp at hk⊢
  go_enter Tryz.func60,Tryz.ntmps60;go_wp2_with fail;refine(hc1 _ _ HRU.out (HA.out.below HB0.out)).mono ?_;rintro r w1 ⟨a1,c1,rfl,hb1,ho1⟩;obtain⟨hcc,hff⟩:=aP hb1;have HB1:=aA (aB HB0.out hb1)
  have HX1:=aA ho1.1;have HBV:=aA (HB1.out.alloc HB1.out.size (.cells #[.int .i64 v.c,.int .i64 v.m.x,.int .i64 v.m.y,.int .i64 v.m.d,.int .i64 v.m.e] 54))
  clear hb1 ho1;go_wp2_with fail;clear hcc hff;refine(hc2 _ _ (gD w1 v) (HB.out.below HBV.out)).mono ?_;rintro r w2 ⟨a2,c2,rfl,hb2,ho2⟩;have HB2:=aA (aB HBV.out hb2)
  have HX2:=aA ((HX1.out.below (aC w1 (.cells #[.int .i64 v.c,.int .i64 v.m.x,.int .i64 v.m.y,.int .i64 v.m.d,.int .i64 v.m.e] 54))).below hb2);have HY2:=aA ho2.1
  clear hb2 ho2 HX1 HB1 HBV;cases k1
  ·go_wp2;refine cW (results_tmp2 rfl _ _ _) rfl ?_;exact⟨none,0,rfl,HB2.out,HN.out w2⟩
  ·cases k2
   ·go_wp2;refine cW (results_tmp2 rfl _ _ _) rfl ?_;exact⟨none,0,rfl,HB2.out,HN.out w2⟩
   ·exact absurd ⟨rfl,rfl⟩ hk
theorem VZ (w:World) (o:Int) (a b:Option Addr) (n ca m cb:Nat) (f g:Nat→T) (ha:Rd w a n ca f) (hb:Rd w b m cb g):Calls Tryz.prog 56 #[.int .i64 o,.slice a n ca,.slice b m cb] w fun r w'=>∃v,r= .returned (.tuple #[v,.bool (aZ o f n g m).2])∧Below w.heap.size w w'∧w'.ownsRow w.heap.size 54 5 v (aZ o f n g m).1.length (aE (aZ o f n g m).1):=by
 have HA:=aA ha;have HB:=aA hb
 have hla:(n:Int)≤140737488351232:=by have:=ha.2.1;omega
 have hlb:(m:Int)≤140737488351232:=by have:=hb.2.1;omega
 have hcall:=BZ w o a n ca f b m cb g ha hb;clear ha hb;unfold aZ;obtain⟨U,hU⟩:∃U,eD o n f m g=U:=⟨_,rfl⟩
 obtain⟨V,hV⟩:∃V,eE o n f m g=V:=⟨_,rfl⟩
 cases hok:eG o n f m g
 ·rw[hU,hV,hok]at hcall;rw[if_neg (by simp)];clear hU hV hok;go_enter Tryz.func56,Tryz.ntmps56;go_wp2_with fail;refine hcall.mono ?_;rintro r w1 ⟨rfl,hb1⟩;have HB1:=aA hb1
  clear hb1 hcall;have HB2:=aA (HB1.out.alloc HB1.out.size (.cells #[.int .i64 U.c,.int .i64 U.m.x,.int .i64 U.m.y,.int .i64 U.m.d,.int .i64 U.m.e] 54))
  have HB3:=aA (HB2.out.alloc HB2.out.size (.cells #[.int .i64 V.c,.int .i64 V.m.x,.int .i64 V.m.y,.int .i64 V.m.d,.int .i64 V.m.e] 54));have hnn:=dM ((w1.alloc (.cells #[.int .i64 U.c,.int .i64 U.m.x,.int .i64 U.m.y,.int .i64 U.m.d,.int .i64 U.m.e] 54)).alloc (.cells #[.int .i64 V.c,.int .i64 V.m.x,.int .i64 V.m.y,.int .i64 V.m.d,.int .i64 V.m.e] 54)) w.heap.size HB3.out.size
  rw[World.size_alloc,World.size_alloc]at hnn;have HNN:=aA hnn
  clear hnn;go_wp2;refine cW (results_tmp2 rfl _ _ _) rfl ?_;exact⟨_,rfl,HB3.out.alloc HB3.out.size _,HNN.out⟩
 ·obtain⟨gU,gV⟩:=tP hok;have hk:=hok
  unfold eG at hk;rw[Bool.and_eq_true]at hk;have p1:=(kN hk.1).2.1
  have p2:=(kN hk.2).2.1;rw[hU]at gU;rw[hV]at gV;rw[hU,hV,hok]at hcall;rw[if_pos rfl,hU,hV,PO gU gV p1 p2];obtain⟨l1,g1⟩:=cB p1;have gs:nG (lf [U]) 1:=fun i hi=>by
   obtain rfl:i=0:=by omega
   exact⟨gU.1,by show 0≤U.c;omega,gU.2.2⟩
  have hm:=fun(W:World) (A:Nat) (h:RL W (some ⟨A,0,none⟩) 1 [U]) (h':Rd W a n ca f)=>UB W (some ⟨A,0,none⟩) a 1 1 n ca (lf [U]) f h h' (by omega) l1 gs g1;have HGS:=aA gs
  have HG1:=aA g1;have HP2:=aA p2
  have HGV:=aA gV;clear hU hV hok hk gU gV gs g1 p1 p2;cases hX:cC (lf [U]) f n 1 with
  |none=>
   rw[hX]at hm;simp only[iK]at hm;go_enter Tryz.func56,Tryz.ntmps56;go_wp2_with fail;refine hcall.mono ?_;rintro r w1 ⟨rfl,hb1⟩;have HB1:=aA hb1
   clear hb1 hcall;have HB2:=aA (HB1.out.alloc HB1.out.size (.cells #[.int .i64 U.c,.int .i64 U.m.x,.int .i64 U.m.y,.int .i64 U.m.d,.int .i64 U.m.e] 54))
   have HB3:=aA (HB2.out.alloc HB2.out.size (.cells #[.int .i64 V.c,.int .i64 V.m.x,.int .i64 V.m.y,.int .i64 V.m.d,.int .i64 V.m.e] 54));have HB4:=aA (HB3.out.alloc HB3.out.size (.cells #[.int .i64 U.c,.int .i64 U.m.x,.int .i64 U.m.y,.int .i64 U.m.d,.int .i64 U.m.e] 54))
   have hru:=gD ((w1.alloc (.cells #[.int .i64 U.c,.int .i64 U.m.x,.int .i64 U.m.y,.int .i64 U.m.d,.int .i64 U.m.e] 54)).alloc (.cells #[.int .i64 V.c,.int .i64 V.m.x,.int .i64 V.m.y,.int .i64 V.m.d,.int .i64 V.m.e] 54)) U;rw[World.size_alloc,World.size_alloc]at hru;have HRU:=aA hru
   clear hru;go_wp2_with fail;refine(hm _ _ HRU.out (HA.out.below HB4.out)).mono ?_;rintro r w2 ⟨v2,rfl,hb2,ho2⟩;have HB5:=aA (aB HB4.out hb2)
   clear hb2 ho2 hm;go_wp2;refine cW (results_tmp2 rfl _ _ _) rfl ?_;exact⟨_,rfl,HB5.out.alloc HB5.out.size _,dM _ w.heap.size HB5.out.size⟩
  |some X=>
   have fX:=cV HGS.out HG1.out 1 X (Nat.le_refl _) hX;have lX:=fH 1 X hX
   have HFX:=aA fX;rw[hX]at hm;simp only[iK]at hm;have hless:=fun(W:World) (pa:Option Addr) (pc:Nat) (h:RL W pa pc X) (h':Rd W b m cb g)=>LU W pa pc X V b m cb g h lX HFX.out HGV.out h' HP2.out
   dsimp only;generalize nB X V g m=D at hless⊢;clear fX hX;go_enter Tryz.func56,Tryz.ntmps56;go_wp2_with fail;refine hcall.mono ?_;rintro r w1 ⟨rfl,hb1⟩;have HB1:=aA hb1
   clear hb1 hcall;have HB2:=aA (HB1.out.alloc HB1.out.size (.cells #[.int .i64 U.c,.int .i64 U.m.x,.int .i64 U.m.y,.int .i64 U.m.d,.int .i64 U.m.e] 54))
   have HC3:=aA (C5.box (w1.alloc (.cells #[.int .i64 U.c,.int .i64 U.m.x,.int .i64 U.m.y,.int .i64 U.m.d,.int .i64 U.m.e] 54)) 54 V);have HB3:=aA (HB2.out.alloc HB2.out.size (.cells #[.int .i64 V.c,.int .i64 V.m.x,.int .i64 V.m.y,.int .i64 V.m.d,.int .i64 V.m.e] 54))
   have HB4:=aA (HB3.out.alloc HB3.out.size (.cells #[.int .i64 U.c,.int .i64 U.m.x,.int .i64 U.m.y,.int .i64 U.m.d,.int .i64 U.m.e] 54));have hru:=gD ((w1.alloc (.cells #[.int .i64 U.c,.int .i64 U.m.x,.int .i64 U.m.y,.int .i64 U.m.d,.int .i64 U.m.e] 54)).alloc (.cells #[.int .i64 V.c,.int .i64 V.m.x,.int .i64 V.m.y,.int .i64 V.m.d,.int .i64 V.m.e] 54)) U
   rw[World.size_alloc,World.size_alloc]at hru;have HRU:=aA hru
   clear hru;go_wp2_with fail;refine(hm _ _ HRU.out (HA.out.below HB4.out)).mono ?_;rintro r w2 ⟨v2,rfl,hb2,ho2⟩;obtain⟨a2,c2,rfl,hout⟩:=aI ho2 (by omega);have HB5:=aA (aB HB4.out hb2)
   have hC5:=(HC3.out.below (aC _ (.cells #[.int .i64 U.c,.int .i64 U.m.x,.int .i64 U.m.y,.int .i64 U.m.d,.int .i64 U.m.e] 54))).below hb2;have HX2:=aA hout.1
   rw[World.size_alloc]at hC5;obtain⟨r0,r1,r2,r3,r4⟩:=hC5;clear hb2 ho2 hm hout;go_wp2_with fail;clear r0 r1 r2 r3 r4;refine(hless _ _ _ HX2.out (HB.out.below HB5.out)).mono ?_;rintro r w3 ⟨v3,rfl,hb3,ho3⟩;have HB6:=aA (aB HB5.out hb3)
   have HO6:=aA (gX ho3 HB5.out.size);clear hb3 ho3;go_wp2;refine cW (results_tmp2 rfl _ _ _) rfl ?_;exact⟨_,rfl,HB6.out,HO6.out⟩
end Go.Proofs.YtmlaedpamobmhaaGreat
