/-
  What is left of a pair of operators: the program and the model.
-/
import Derived.Test.YtelkehjdfcoeiaaGreatMbh
set_option maxHeartbeats 8000000
set_option maxRecDepth 100000
namespace Go.Proofs.YtelkehjdfcoeiaaGreat
open Go.RowKit Go.Deep Go.Joins
set_option linter.unusedVariables false
theorem Ib (w:World) (u v:T) (a b:Option Addr) (n ca m cb:Nat) (f g:Nat→T) (ha:Rd w a n ca f) (hb:Rd w b m cb g):Calls Tryz.prog 101 #[.agg #[.int .i64 u.c,.int .i64 u.m.x,.int .i64 u.m.y,.int .i64 u.m.d,.int .i64 u.m.e,.int .i64 v.c,.int .i64 v.m.x,.int .i64 v.m.y,.int .i64 v.m.d,.int .i64 v.m.e],.slice a n ca,.slice b m cb] w fun r w'=>∃a' cap',r= .returned (.tuple #[.slice a' (mY u v f n g m).1.length cap',.bool (mY u v f n g m).2])∧Below w.heap.size w w'∧jG w.heap.size w' a' cap' (mY u v f n g m).1:=by
 have HA:=aA ha;have HB:=aA hb
 have hla:(n:Int)≤140737488351232:=by have:=ha.2.1;omega
 have hlb:(m:Int)≤140737488351232:=by have:=hb.2.1;omega
 have hc1:=fun(W:World) (A:Nat) (h:RL W (some ⟨A,0,none⟩) 1 [u]) (h':Rd W a n ca f)=>wQ W (some ⟨A,0,none⟩) a 1 1 n ca (lf [u]) f h h';have hc2:=fun(W:World) (A:Nat) (h:RL W (some ⟨A,0,none⟩) 1 [v]) (h':Rd W b m cb g)=>wQ W (some ⟨A,0,none⟩) b 1 1 m cb (lf [v]) g h h'
 have hl1:=uK (lf [u]) 1 f n;have hl2:=uK (lf [v]) 1 g m
 clear ha hb;unfold mY;generalize bT (lf [u]) 1 f n=p at *;generalize bT (lf [v]) 1 g m=q at *;obtain⟨X,k1⟩:=p;obtain⟨Y,k2⟩:=q;dsimp only at hc1 hc2 hl1 hl2⊢;have hru:=iG (w.alloc (.cells #[.int .i64 u.c,.int .i64 u.m.x,.int .i64 u.m.y,.int .i64 u.m.d,.int .i64 u.m.e,.int .i64 v.c,.int .i64 v.m.x,.int .i64 v.m.y,.int .i64 v.m.d,.int .i64 v.m.e] 139)) u
 rw[World.size_alloc]at hru;have HRU:=aA hru
 have HB0:=aA (aS w (.cells #[.int .i64 u.c,.int .i64 u.m.x,.int .i64 u.m.y,.int .i64 u.m.d,.int .i64 u.m.e,.int .i64 v.c,.int .i64 v.m.x,.int .i64 v.m.y,.int .i64 v.m.d,.int .i64 v.m.e] 139) (.cells #[.int .i64 u.c,.int .i64 u.m.x,.int .i64 u.m.y,.int .i64 u.m.d,.int .i64 u.m.e] 86));clear hru;have hnil:∀(W:World),jG w.heap.size W none 0 ([]:List T):=fun W=>⟨⟨Nat.le_refl _,by simp,.inl rfl⟩,.inl rfl,.inl rfl⟩
 have HN:=aA hnil;clear hnil;by_cases hk:k1=true∧k2=true
 ·obtain⟨rfl,rfl⟩:=hk;rw[if_pos ⟨rfl,rfl⟩];go_enter Tryz.func101,Tryz.ntmps101;go_wp2_with fail;refine(hc1 _ _ HRU.out (HA.out.below HB0.out)).mono ?_;rintro r w1 ⟨a1,c1,rfl,hb1,ho1⟩;obtain⟨hcc,hff⟩:=aN hb1;have HB1:=aA (aB HB0.out hb1)
  have HX1:=aA ho1.1;have HBV:=aA (HB1.out.alloc HB1.out.size (.cells #[.int .i64 v.c,.int .i64 v.m.x,.int .i64 v.m.y,.int .i64 v.m.d,.int .i64 v.m.e] 86))
  clear hb1 ho1;go_wp2_with fail;clear hcc hff;refine(hc2 _ _ (iG w1 v) (HB.out.below HBV.out)).mono ?_;rintro r w2 ⟨a2,c2,rfl,hb2,ho2⟩;have HB2:=aA (aB HBV.out hb2)
  have HX2:=aA ((HX1.out.below (aC w1 (.cells #[.int .i64 v.c,.int .i64 v.m.x,.int .i64 v.m.y,.int .i64 v.m.d,.int .i64 v.m.e] 86))).below hb2);have HY2:=aA ho2.1
  clear hb2 ho2 HX1 HB1 HBV;go_wp2_with (go_at_call 144;refine(SI _ _ _ _ _ _ _ (lf X) (lf Y) HX2.out HY2.out).mono ?_;rintro r w3 ⟨a3,c3,rfl,hb3,ho3⟩);refine cD (results_tmp2 rfl _ _ _) rfl ?_;exact⟨a3,c3,rfl,aB HB2.out hb3,RZ ho3 HB2.out.size⟩
 ·rw[if_neg hk];have hk':(!k1|| !k2)=true:=by cases k1<;>cases k2<;>simp at hk⊢
  go_enter Tryz.func101,Tryz.ntmps101;go_wp2_with fail;refine(hc1 _ _ HRU.out (HA.out.below HB0.out)).mono ?_;rintro r w1 ⟨a1,c1,rfl,hb1,ho1⟩;obtain⟨hcc,hff⟩:=aN hb1;have HB1:=aA (aB HB0.out hb1)
  have HX1:=aA ho1.1;have HBV:=aA (HB1.out.alloc HB1.out.size (.cells #[.int .i64 v.c,.int .i64 v.m.x,.int .i64 v.m.y,.int .i64 v.m.d,.int .i64 v.m.e] 86))
  clear hb1 ho1;go_wp2_with fail;clear hcc hff;refine(hc2 _ _ (iG w1 v) (HB.out.below HBV.out)).mono ?_;rintro r w2 ⟨a2,c2,rfl,hb2,ho2⟩;have HB2:=aA (aB HBV.out hb2)
  have HX2:=aA ((HX1.out.below (aC w1 (.cells #[.int .i64 v.c,.int .i64 v.m.x,.int .i64 v.m.y,.int .i64 v.m.d,.int .i64 v.m.e] 86))).below hb2);have HY2:=aA ho2.1
  clear hb2 ho2 HX1 HB1 HBV;cases k1
  ·go_wp2;refine cD (results_tmp2 rfl _ _ _) rfl ?_;exact⟨none,0,rfl,HB2.out,HN.out w2⟩
  ·cases k2
   ·go_wp2;refine cD (results_tmp2 rfl _ _ _) rfl ?_;exact⟨none,0,rfl,HB2.out,HN.out w2⟩
   ·exact absurd ⟨rfl,rfl⟩ hk
theorem Cu (w:World) (o:Int) (a b:Option Addr) (n ca m cb:Nat) (f g:Nat→T) (ha:Rd w a n ca f) (hb:Rd w b m cb g):Calls Tryz.prog 69 #[.int .i64 o,.slice a n ca,.slice b m cb] w fun r w'=>∃v,r= .returned (.tuple #[v,.bool (cZ o f n g m).2])∧Below w.heap.size w w'∧w'.ownsRow w.heap.size 86 5 v (cZ o f n g m).1.length (aE (cZ o f n g m).1):=by
 have HA:=aA ha;have HB:=aA hb
 have hla:(n:Int)≤140737488351232:=by have:=ha.2.1;omega
 have hlb:(m:Int)≤140737488351232:=by have:=hb.2.1;omega
 have hcall:=FE w o a n ca f b m cb g ha hb;clear ha hb;unfold cZ;obtain⟨U,hU⟩:∃U,eZ o n f m g=U:=⟨_,rfl⟩
 obtain⟨V,hV⟩:∃V,fC o n f m g=V:=⟨_,rfl⟩
 cases hok:fM o n f m g
 ·rw[hU,hV,hok]at hcall;rw[if_neg (by simp)];clear hU hV hok;go_enter Tryz.func69,Tryz.ntmps69;go_wp2_with fail;refine hcall.mono ?_;rintro r w1 ⟨rfl,hb1⟩;have HB1:=aA hb1
  clear hb1 hcall;have HB2:=aA (HB1.out.alloc HB1.out.size (.cells #[.int .i64 U.c,.int .i64 U.m.x,.int .i64 U.m.y,.int .i64 U.m.d,.int .i64 U.m.e] 86))
  have HB3:=aA (HB2.out.alloc HB2.out.size (.cells #[.int .i64 V.c,.int .i64 V.m.x,.int .i64 V.m.y,.int .i64 V.m.d,.int .i64 V.m.e] 86));have hnn:=dA ((w1.alloc (.cells #[.int .i64 U.c,.int .i64 U.m.x,.int .i64 U.m.y,.int .i64 U.m.d,.int .i64 U.m.e] 86)).alloc (.cells #[.int .i64 V.c,.int .i64 V.m.x,.int .i64 V.m.y,.int .i64 V.m.d,.int .i64 V.m.e] 86)) w.heap.size HB3.out.size
  rw[World.size_alloc,World.size_alloc]at hnn;have HNN:=aA hnn
  clear hnn;go_wp2;refine cD (results_tmp2 rfl _ _ _) rfl ?_;exact⟨_,rfl,HB3.out.alloc HB3.out.size _,HNN.out⟩
 ·obtain⟨gU,gV⟩:=wG hok;have hk:=hok
  unfold fM at hk;rw[Bool.and_eq_true]at hk;have p1:=(mF hk.1).2.1
  have p2:=(mF hk.2).2.1;rw[hU]at gU;rw[hV]at gV;rw[hU,hV,hok]at hcall;rw[if_pos rfl,hU,hV,VE gU gV p1 p2];obtain⟨l1,g1⟩:=cJ p1;have gs:pR (lf [U]) 1:=fun i hi=>by
   obtain rfl:i=0:=by omega
   exact⟨gU.1,by show 0≤U.c;omega,gU.2.2⟩
  have hm:=fun(W:World) (A:Nat) (h:RL W (some ⟨A,0,none⟩) 1 [U]) (h':Rd W a n ca f)=>ZW W (some ⟨A,0,none⟩) a 1 1 n ca (lf [U]) f h h' (by omega) l1 gs g1;have HGS:=aA gs
  have HG1:=aA g1;have HP2:=aA p2
  have HGV:=aA gV;clear hU hV hok hk gU gV gs g1 p1 p2;cases hX:cM (lf [U]) f n 1 with
  |none=>
   rw[hX]at hm;simp only[kW]at hm;go_enter Tryz.func69,Tryz.ntmps69;go_wp2_with fail;refine hcall.mono ?_;rintro r w1 ⟨rfl,hb1⟩;have HB1:=aA hb1
   clear hb1 hcall;have HB2:=aA (HB1.out.alloc HB1.out.size (.cells #[.int .i64 U.c,.int .i64 U.m.x,.int .i64 U.m.y,.int .i64 U.m.d,.int .i64 U.m.e] 86))
   have HB3:=aA (HB2.out.alloc HB2.out.size (.cells #[.int .i64 V.c,.int .i64 V.m.x,.int .i64 V.m.y,.int .i64 V.m.d,.int .i64 V.m.e] 86));have HB4:=aA (HB3.out.alloc HB3.out.size (.cells #[.int .i64 U.c,.int .i64 U.m.x,.int .i64 U.m.y,.int .i64 U.m.d,.int .i64 U.m.e] 86))
   have hru:=iG ((w1.alloc (.cells #[.int .i64 U.c,.int .i64 U.m.x,.int .i64 U.m.y,.int .i64 U.m.d,.int .i64 U.m.e] 86)).alloc (.cells #[.int .i64 V.c,.int .i64 V.m.x,.int .i64 V.m.y,.int .i64 V.m.d,.int .i64 V.m.e] 86)) U;rw[World.size_alloc,World.size_alloc]at hru;have HRU:=aA hru
   clear hru;go_wp2_with fail;refine(hm _ _ HRU.out (HA.out.below HB4.out)).mono ?_;rintro r w2 ⟨v2,rfl,hb2,ho2⟩;have HB5:=aA (aB HB4.out hb2)
   clear hb2 ho2 hm;go_wp2;refine cD (results_tmp2 rfl _ _ _) rfl ?_;exact⟨_,rfl,HB5.out.alloc HB5.out.size _,dA _ w.heap.size HB5.out.size⟩
  |some X=>
   have fX:=dK HGS.out HG1.out 1 X (Nat.le_refl _) hX;have lX:=gN 1 X hX
   have HFX:=aA fX;rw[hX]at hm;simp only[kW]at hm;have hless:=fun(W:World) (pa:Option Addr) (pc:Nat) (h:RL W pa pc X) (h':Rd W b m cb g)=>QX W pa pc X V b m cb g h lX HFX.out HGV.out h' HP2.out
   dsimp only;generalize pH X V g m=D at hless⊢;clear fX hX;go_enter Tryz.func69,Tryz.ntmps69;go_wp2_with fail;refine hcall.mono ?_;rintro r w1 ⟨rfl,hb1⟩;have HB1:=aA hb1
   clear hb1 hcall;have HB2:=aA (HB1.out.alloc HB1.out.size (.cells #[.int .i64 U.c,.int .i64 U.m.x,.int .i64 U.m.y,.int .i64 U.m.d,.int .i64 U.m.e] 86))
   have HC3:=aA (C5.box (w1.alloc (.cells #[.int .i64 U.c,.int .i64 U.m.x,.int .i64 U.m.y,.int .i64 U.m.d,.int .i64 U.m.e] 86)) 86 V);have HB3:=aA (HB2.out.alloc HB2.out.size (.cells #[.int .i64 V.c,.int .i64 V.m.x,.int .i64 V.m.y,.int .i64 V.m.d,.int .i64 V.m.e] 86))
   have HB4:=aA (HB3.out.alloc HB3.out.size (.cells #[.int .i64 U.c,.int .i64 U.m.x,.int .i64 U.m.y,.int .i64 U.m.d,.int .i64 U.m.e] 86));have hru:=iG ((w1.alloc (.cells #[.int .i64 U.c,.int .i64 U.m.x,.int .i64 U.m.y,.int .i64 U.m.d,.int .i64 U.m.e] 86)).alloc (.cells #[.int .i64 V.c,.int .i64 V.m.x,.int .i64 V.m.y,.int .i64 V.m.d,.int .i64 V.m.e] 86)) U
   rw[World.size_alloc,World.size_alloc]at hru;have HRU:=aA hru
   clear hru;go_wp2_with fail;refine(hm _ _ HRU.out (HA.out.below HB4.out)).mono ?_;rintro r w2 ⟨v2,rfl,hb2,ho2⟩;obtain⟨a2,c2,rfl,hout⟩:=aI ho2 (by omega);have HB5:=aA (aB HB4.out hb2)
   have hC5:=(HC3.out.below (aC _ (.cells #[.int .i64 U.c,.int .i64 U.m.x,.int .i64 U.m.y,.int .i64 U.m.d,.int .i64 U.m.e] 86))).below hb2;have HX2:=aA hout.1
   rw[World.size_alloc]at hC5;obtain⟨r0,r1,r2,r3,r4⟩:=hC5;clear hb2 ho2 hm hout;go_wp2_with fail;clear r0 r1 r2 r3 r4;refine(hless _ _ _ HX2.out (HB.out.below HB5.out)).mono ?_;rintro r w3 ⟨v3,rfl,hb3,ho3⟩;have HB6:=aA (aB HB5.out hb3)
   have HO6:=aA (iY ho3 HB5.out.size);clear hb3 ho3;go_wp2;refine cD (results_tmp2 rfl _ _ _) rfl ?_;exact⟨_,rfl,HB6.out,HO6.out⟩
def GO (n:Nat) (L:Nat→List T) (n':Nat) (L':Nat→List T):Bool:=decide (n=n'∧∀i,i<n→sq (L i) (L' i)=true)
theorem rR (n:Nat) (L:Nat→List T):GO n L n L=true:=decide_eq_true ⟨rfl,fun i _=>wH (L i)⟩
theorem oF {n:Nat} {L:Nat→List T} {n':Nat} {L':Nat→List T}:GO n L n' L'=true↔n=n'∧∀i,i<n→L i=L' i:=by unfold GO;rw[decide_eq_true_iff];exact⟨fun h=>⟨h.1,fun i hi=>CK.1 (h.2 i hi)⟩,fun h=>⟨h.1,fun i hi=>CK.2 (h.2 i hi)⟩⟩
theorem xM {n:Nat} {L:Nat→List T} {n':Nat} {L':Nat→List T} (h:¬(n=n'∧∀i,i<n→L i=L' i)):GO n L n' L'=false:=by
 cases e:GO n L n' L'
 ·rfl
 ·exact absurd (oF.1 e) h
theorem vK (w:World) (a a':Option Addr) (n cap n' cap':Nat) (ad ad':Nat→Option Addr) (cp cp':Nat→Nat) (L L':Nat→List T) (h:eQ w a n cap ad (lN L) cp (fN L)) (h':eQ w a' n' cap' ad' (lN L') cp' (fN L')):Calls Tryz.prog 19 #[.slice a n cap,.slice a' n' cap'] w (NX w (.bool (GO n L n' L'))):=by
 have hn:(n:Int)≤140737488351232:=by have:=h.2.1;omega
 have hn':(n':Int)≤140737488351232:=by have:=h'.2.1;omega
 obtain⟨r,hr⟩:∃r,GO n L n' L'=r:=⟨_,rfl⟩
 rw[hr];have HR:=aA hr
 have HH:=aA h;have HH':=aA h'
 clear h h' hr;unfold NX;by_cases hnn:n=n'
 ·subst hnn;have hne:((n:Int)!=(n:Int))=false:=by simp
  go_enter Tryz.func19,Tryz.ntmps19;go_wp2;go_loopw [5] (fun v wr=>∃i:Nat,i≤n∧v= .int .i64 (i:Int)∧Below w.heap.size w wr∧∀j,j<i→L j=L' j) (fun v _=>n-(intOf v).toNat);case atStart=>exact⟨0,Nat.zero_le _,rfl,bG _ _,fun j hj=>by omega⟩
  case round=>
   obtain⟨i,hi,rfl,hB,hJ⟩:=hrel;have HJ:=aA hJ
   clear hJ;by_cases hlt:i<n
   ·rcases HH.out.2.2.1 with h0|⟨b,off,rfl,hblt,hcl⟩
    ·omega
    rcases HH'.out.2.2.1 with h0|⟨b',off',rfl,hblt',hcl'⟩
    ·omega
    have hil:(i:Int)<(n:Int):=by omega
    have hbr:b<wr.heap.size:=lB hblt hB.size;have hbr':b'<wr.heap.size:=lB hblt' hB.size
    have ne:=bZ.there wr;obtain⟨l,hl⟩:∃l,(L i).length=l:=⟨_,rfl⟩
    obtain⟨l',hl'⟩:∃l',(L' i).length=l':=⟨_,rfl⟩
    have g0:wr.cell? ⟨b,off+i,none⟩=some (.slice (ad i) l (cp i)):=(hB.cell (p:=⟨b,off+i,none⟩) hblt).trans (by rw[←hl];exact hcl i hlt);have g1:wr.cell? ⟨b',off'+i,none⟩=some (.slice (ad' i) l' (cp' i)):=(hB.cell (p:=⟨b',off'+i,none⟩) hblt').trans (by rw[←hl'];exact hcl' i hlt)
    have s0:∀u:bZ wr,u.1.cell? ⟨b,off+i,none⟩=some (.slice (ad i) l (cp i)):=fun u=>(u.cell hbr).trans g0;have s1:∀u:bZ wr,u.1.cell? ⟨b',off'+i,none⟩=some (.slice (ad' i) l' (cp' i)):=fun u=>(u.cell hbr').trans g1
    have HK:=aA ((HH.out.2.2.2 i hlt).below hB);have HK':=aA ((HH'.out.2.2.2 i hlt).below hB)
    have HB:=aA hB;obtain⟨q,hq⟩:∃q,sq (L i) (L' i)=q:=⟨_,rfl⟩
    have HQ:=aA hq;have hcall:∀u:bZ wr,Calls Tryz.prog 51 #[.slice (ad i) l (cp i),.slice (ad' i) l' (cp' i)] u.1 fun r w'=>r= .returned (.bool q)∧Below u.1.heap.size u.1 w':=fun u=>by have:=Od (w:=u.1) (a:=ad i) (ca:=cp i) (L:=L i) (b:=ad' i) (cb:=cp' i) (K:=L' i) (HK.out.below u.2) (HK'.out.below u.2);rw[hq,hl,hl']at this;exact this
    clear hcl hcl' hB g0 g1 hq hl hl';go_wp2_with fail;refine aG (by kernel_rfl) (by kernel_rfl) ?_;repeat(go_big_quiet_step (first|(go_at_call 51;exact aJ (hcall _))|fail))
    refine wpQuiet_nil ?_;rintro _ ⟨v,rfl⟩;have HV:=aA v.2
    clear s0 s1 ne hcall;cases q
    ·have hr:r=false:=by
      rw[←HR.out];refine xM (fun hh=>?_);have h1:=HQ.out
      rw[hh.2 i hlt,wH]at h1;cases h1
     subst hr;go_wp2;go_ret;exact⟨rfl,aB HB.out HV.out⟩
    ·have he:=CK.1 HQ.out;have HE:=aA he
     clear he;go_wp2;go_roundw
     case rel=>exact⟨i+1,by omega,by go_num,aB HB.out HV.out,fun j hj=>by
      by_cases e:j=i
      ·rw[e];exact HE.out
      ·exact HJ.out j (by omega)⟩
     case measure=>simp[intOf];omega
   ·have hnl:¬(i:Int)<(n:Int):=by omega
    have hr:r=true:=by rw[←HR.out];exact oF.2 ⟨rfl,fun j hj=>HJ.out j (by omega)⟩
    subst hr;go_wp2;go_ret;exact⟨rfl,hB⟩
 ·have hne:((n:Int)!=(n':Int))=true:=by simp;omega
  have hr:r=false:=by rw[←HR.out];exact xM (fun hh=>hnn hh.1)
  subst hr;go_enter Tryz.func19,Tryz.ntmps19;go_wp2;go_ret;exact⟨rfl,bG _ _⟩
theorem WC {o:Int} {p:List T} {n:Nat} {L:Nat→List T} (ho:1≤o∧o≤3) (hp:cF p=true) (hl:bB n (lN L) (fN L)=true):aY o p n (lN L) (fN L)=fK o n (lN L) (fN L) 300 (lR p):=if_pos ⟨ho,hp,hl⟩
theorem Hg {w:World} (o:Int) {a b:Option Addr} {ca cb:Nat} {A B:List T} (ha:RL w a ca A) (hb:RL w b cb B):Calls Tryz.prog 69 #[.int .i64 o,.slice a A.length ca,.slice b B.length cb] w (JI w (cZ o (lf A) A.length (lf B) B.length)):=
 (Cu w o a b A.length ca B.length cb (lf A) (lf B) ha hb).mono fun _ _ h=>NN (MY _ _ _ _ _) h
structure Fr (P:Nat→Prop) (w w':World):Prop where
 os:w'.os=w.os
 tape:w'.tape=w.tape
 output:w'.output=w.output
 size:w.heap.size≤w'.heap.size
 block:∀k,k<w.heap.size→¬P k→w'.heap[k]? =w.heap[k]?
theorem Fr.refl (P:Nat→Prop) (w:World):Fr P w w:=⟨rfl,rfl,rfl,Nat.le_refl _,fun _ _ _=>rfl⟩
theorem Fr.trans {P:Nat→Prop} {a b c:World} (h:Fr P a b) (k:Fr P b c):Fr P a c:=
 ⟨k.os.trans h.os,k.tape.trans h.tape,k.output.trans h.output,jQ h.size k.size,fun i hi hn=>(k.block i (lB hi h.size) hn).trans (h.block i hi hn)⟩
theorem Fr.mono {P P':Nat→Prop} {w w':World} (h:Fr P w w') (hp:∀k,k<w.heap.size→P k→P' k):Fr P' w w':=⟨h.os,h.tape,h.output,h.size,fun k hk hn=>h.block k hk (fun e=>hn (hp k hk e))⟩
theorem aZ {P:Nat→Prop} {w w':World} (h:Below w.heap.size w w'):Fr P w w':=⟨h.os,h.tape,h.output,h.size,fun k hk _=>h.block k hk⟩
theorem Fr.next {P:Nat→Prop} {a b c:World} (h:Fr P a b) (k:Below b.heap.size b c):Fr P a c:=h.trans (aZ k)
theorem Fr.set {P:Nat→Prop} {w w':World} (h:Fr P w w') {b o:Nat} {v:Value} (hb:b<w.heap.size→P b):Fr P w (w'.setCell ⟨b,o,none⟩ v):=
 ⟨h.os,h.tape,h.output,by simpa[World.setCell]using h.size,fun k hk hn=>(Below.heap_setCell _ _ _ _ (by show k≠b;intro e;subst e;exact hn (hb hk))).trans (h.block k hk hn)⟩
theorem Fr.grown {P:Nat→Prop} {w w' w'':World} {row:Option Nat} (h:Fr P w w') (hg:w'.grownBy w'' row) (hr:∀g,row=some g→g<w.heap.size→P g):Fr P w w'':=
 ⟨hg.os.trans h.os,hg.tape.trans h.tape,hg.output.trans h.output,jQ h.size hg.size,fun k hk hn=>(hg.block k (lB hk h.size) (fun e=>hn (hr k e.symm hk))).trans (h.block k hk hn)⟩
theorem Fr.cell {P:Nat→Prop} {w w':World} (h:Fr P w w') {b o:Nat} (hb:b<w.heap.size) (hp:¬P b):w'.cell? ⟨b,o,none⟩=w.cell? ⟨b,o,none⟩:=
 lM (w:=w) (a:=⟨b,o,none⟩) (h.block b hb hp)
theorem Fr.frozen {P:Nat→Prop} {w w':World} (h:Fr P w w') {b o:Nat} (hb:b<w.heap.size) (hp:¬P b):w'.frozen? ⟨b,o,none⟩=w.frozen? ⟨b,o,none⟩:=
 World.frozen?_of_block (w:=w) (a:=⟨b,o,none⟩) (h.block b hb hp)
theorem Fr.rd {P:Nat→Prop} {w w':World} (h:Fr P w w') {a:Option Addr} {n cap:Nat} {f:Nat→T} (hr:Rd w a n cap f) (hp:n=0∨∀b off,a=some ⟨b,off,none⟩→¬P b):Rd w' a n cap f:=by
 obtain⟨h1,h2,h3⟩:=hr;refine⟨h1,h2,?_⟩;rcases h3 with h0|⟨b,off,he,hlt,hc⟩
 ·exact .inl h0
 ·rcases hp with h0|hp
  ·exact .inl h0
  ·refine .inr ⟨b,off,he,lB hlt h.size,fun i hi=>?_⟩;have hn:=hp b off he
   obtain⟨c0,c1,c2,c3,c4⟩:=hc i hi;exact⟨(h.cell hlt hn).trans c0,(h.cell hlt hn).trans c1,(h.cell hlt hn).trans c2,(h.cell hlt hn).trans c3,(h.cell hlt hn).trans c4⟩
theorem Fr.c5 {P:Nat→Prop} {w w':World} (h:Fr P w w') {b:Nat} {t:T} (hc:C5 w b t) (hp:¬P b):C5 w' b t:=by have hlt:=hc.lt;obtain⟨c0,c1,c2,c3,c4⟩:=hc;exact⟨(h.cell hlt hp).trans c0,(h.cell hlt hp).trans c1,(h.cell hlt hp).trans c2,(h.cell hlt hp).trans c3,(h.cell hlt hp).trans c4⟩
theorem Fr.below {P:Nat→Prop} {lo:Nat} {u w w':World} (hb:Below lo u w) (h:Fr P w w') (hp:∀k,P k→lo≤k) (hlo:lo≤u.heap.size):Below lo u w':=
 ⟨h.os.trans hb.os,h.tape.trans hb.tape,h.output.trans hb.output,jQ hb.size h.size,fun k hk=>(h.block k (lB hk (jQ hlo hb.size)) (fun e=>by have:=hp k e;omega)).trans (hb.block k hk)⟩
theorem Fr.owns {P:Nat→Prop} {w w':World} (h:Fr P w w') {lo:Nat} {e:TypeId} {size:Nat} {v:Value} {n:Nat} {xs:List Value} (ho:w.ownsRow lo e size v n xs) (hp:∀g,v.ownBlock=some g→¬P g):w'.ownsRow lo e size v n xs:=by
 refine⟨ho.1,ho.2.imp id ?_⟩;rintro⟨g,cap,cur,hv,hlo,hgg,hn,hm,hs,ht⟩;refine⟨g,cap,cur,hv,hlo,?_,hn,hm,hs,ht⟩;have hlt:g<w.heap.size:=(Array.getElem?_eq_some_iff.1 hgg).1
 exact(h.block g hlt (hp g (by rw[hv];rfl))).trans hgg
theorem jF {w:World} {a:Addr} {v u:Value} (h:w.cell? a=some u):(w.setCell a v).cell? a=some v:=World.cell?_setCell_same (w:=w) (a:=a) (v:=v) h
theorem aP {w:World} {a b:Addr} {v:Value} (h:a≠b):(w.setCell a v).cell? b=w.cell? b:=World.cell?_setCell_other (w:=w) (a:=a) (b:=b) (v:=v) h
def Mh (q:Nat×Nat):Nat×Nat:=if q.1+1<q.2 then(q.1+1,q.2)else(0,q.2+1)
def pq:Nat→Nat×Nat
 |0=>(0,1)
 |j+1=>Mh (pq j)
def cG:Nat→Nat
 |0=>0
 |k+1=>cG k+k
theorem rS:∀k i,i<k→pq (cG k+i)=(i,k)
 |0,i,h=>by omega
 |1,i,h=>by
  obtain rfl:i=0:=by omega
  rfl
 |k+2,0,_=>by
  have:=rS (k+1) k (by omega);show pq (cG (k+1)+(k+1))=(0,k+2)
  rw[show cG (k+1)+(k+1)=(cG (k+1)+k)+1 by omega];show Mh (pq (cG (k+1)+k))=_
  rw[this];unfold Mh;rw[if_neg (by simp)]
 |k+2,i+1,h=>by
  have:=rS (k+2) i (by omega);rw[show cG (k+2)+(i+1)=(cG (k+2)+i)+1 by omega];show Mh (pq (cG (k+2)+i))=_
  rw[this];unfold Mh;rw[if_pos (by simpa using h)]
theorem wM       {a b : Nat} (h : a ≤ b) : cG  a ≤ cG  b := by
  induction b with
  | zero => obtain rfl : a = 0 := by omega
            exact Nat.le_refl _
  | succ b ih =>
    rcases Nat.lt_or_ge a (b + 1) with h' | h'
    · have := ih (by omega); show cG  a ≤ cG  b + b; omega
    · obtain rfl : a = b + 1 := by omega
      exact Nat.le_refl _
theorem PX:∀(m j:Nat),j<cG m→∃k i,k<m∧i<k∧j=cG k+i
 |0,j,h=>absurd h (tD _)
 |m+1,j,h=>by
  rcases Nat.lt_or_ge j (cG m)with h'|h'
  ·obtain⟨k,i,h1,h2,h3⟩:=PX m j h';exact⟨k,i,by omega,h2,h3⟩
  ·have h:j<cG m+m:=h;exact⟨m,j-cG m,by omega,by omega,by omega⟩
theorem SJ {m j:Nat} (h:j<cG m):(pq j).1<(pq j).2∧(pq j).2<m:=by obtain⟨k,i,h1,h2,rfl⟩:=PX m j h;rw[rS k i h2];exact⟨h2,h1⟩
structure Pr where
 t1:T
 t2:T
 i:Nat
 k:Nat
def yZ (kf:Nat→T) (j:Nat):Pr:=⟨iR (kf (pq j).1) (M.both (kf (pq j).1).m (kf (pq j).2).m),iR (kf (pq j).2) (M.both (kf (pq j).1).m (kf (pq j).2).m),(pq j).1,(pq j).2⟩
theorem VW {kf kf':Nat→T} {m j:Nat} (h:∀i,i<m→kf i=kf' i) (hj:j<cG m):yZ kf j=yZ kf' j:=by obtain⟨h1,h2⟩:=SJ hj;unfold yZ;rw[h _ (Nat.lt_trans h1 h2),h _ h2]
abbrev vi (z:Int):Value:=.int .i64 z
abbrev Gq (p:Pr) (nx:Option Addr):Array Value:=#[vi p.t1.c,vi p.t1.m.x,vi p.t1.m.y,vi p.t1.m.d,vi p.t1.m.e,vi p.t2.c,vi p.t2.m.x,vi p.t2.m.y,vi p.t2.m.d,vi p.t2.m.e,vi (p.i:Int),vi (p.k:Int),.pointer nx]
structure kN (w:World) (b:Nat) (p:Pr) (nx:Option Addr):Prop where
 a0:w.cell? ⟨b,0,none⟩=some (.int .i64 p.t1.c)
 a1:w.cell? ⟨b,1,none⟩=some (.int .i64 p.t1.m.x)
 a2:w.cell? ⟨b,2,none⟩=some (.int .i64 p.t1.m.y)
 a3:w.cell? ⟨b,3,none⟩=some (.int .i64 p.t1.m.d)
 a4:w.cell? ⟨b,4,none⟩=some (.int .i64 p.t1.m.e)
 b0:w.cell? ⟨b,5,none⟩=some (.int .i64 p.t2.c)
 b1:w.cell? ⟨b,6,none⟩=some (.int .i64 p.t2.m.x)
 b2:w.cell? ⟨b,7,none⟩=some (.int .i64 p.t2.m.y)
 b3:w.cell? ⟨b,8,none⟩=some (.int .i64 p.t2.m.d)
 b4:w.cell? ⟨b,9,none⟩=some (.int .i64 p.t2.m.e)
 ci:w.cell? ⟨b,10,none⟩=some (.int .i64 (p.i:Int))
 ck:w.cell? ⟨b,11,none⟩=some (.int .i64 (p.k:Int))
 nx:w.cell? ⟨b,12,none⟩=some (.pointer nx)
 fz:w.frozen? ⟨b,12,none⟩=false
theorem kN.lt {w:World} {b:Nat} {p:Pr} {nx:Option Addr} (h:kN w b p nx):b<w.heap.size:=dD w _ h.a0
theorem kN.fr {P:Nat→Prop} {w w':World} {b:Nat} {p:Pr} {nx:Option Addr} (h:kN w b p nx) (hf:Fr P w w') (hp:¬P b):kN w' b p nx:=
 have hl:=h.lt
 ⟨(hf.cell hl hp).trans h.a0,(hf.cell hl hp).trans h.a1,(hf.cell hl hp).trans h.a2,(hf.cell hl hp).trans h.a3,(hf.cell hl hp).trans h.a4,(hf.cell hl hp).trans h.b0,(hf.cell hl hp).trans h.b1,(hf.cell hl hp).trans h.b2,(hf.cell hl hp).trans h.b3,(hf.cell hl hp).trans h.b4,(hf.cell hl hp).trans h.ci,(hf.cell hl hp).trans h.ck,(hf.cell hl hp).trans h.nx,(hf.frozen hl hp).trans h.fz⟩
theorem kN.below {w w':World} {b:Nat} {p:Pr} {nx:Option Addr} (h:kN w b p nx) (hb:Below w.heap.size w w'):kN w' b p nx:=h.fr (P:=fun _=>False) (aZ hb) id
theorem kN.box (w:World) (y:TypeId) (p:Pr) (nx:Option Addr):kN (w.alloc (.cells (Gq p nx) y)) w.heap.size p nx:=by constructor<;>first|(rw[World.cell?_alloc_at _ _ _ _ rfl];rfl)|(simp[go_sem])
theorem yW {b j:Nat} (h:j≠12):(⟨b,12,none⟩:Addr)≠⟨b,j,none⟩:=fun e=>h (by injection e with _ e2;exact e2.symm)
theorem kN.link {w:World} {b:Nat} {p:Pr} {nx:Option Addr} (h:kN w b p nx) (nx':Option Addr):kN (w.setCell ⟨b,12,none⟩ (.pointer nx')) b p nx' where
 a0:=(aP (yW (by omega))).trans h.a0
 a1:=(aP (yW (by omega))).trans h.a1
 a2:=(aP (yW (by omega))).trans h.a2
 a3:=(aP (yW (by omega))).trans h.a3
 a4:=(aP (yW (by omega))).trans h.a4
 b0:=(aP (yW (by omega))).trans h.b0
 b1:=(aP (yW (by omega))).trans h.b1
 b2:=(aP (yW (by omega))).trans h.b2
 b3:=(aP (yW (by omega))).trans h.b3
 b4:=(aP (yW (by omega))).trans h.b4
 ci:=(aP (yW (by omega))).trans h.ci
 ck:=(aP (yW (by omega))).trans h.ck
 nx:=jF h.nx
 fz:=by rw[World.frozen?_setCell];exact h.fz
def qF (B:Nat→Nat) (a e:Nat):Option Addr:=if a<e then some ⟨B a,0,none⟩else none
structure qN (w:World) (lo Q z:Nat) (lv:Value) (m:Nat) (kf:Nat→T) (B:Nat→Nat) (a e:Nat):Prop where
 cl:w.cell? ⟨Q,z,none⟩=some lv
 cf:w.cell? ⟨Q,z+1,none⟩=some (.pointer (qF B a e))
 ct:∃v,w.cell? ⟨Q,z+2,none⟩=some v∧(a<e→v= .pointer (some ⟨B (e-1),0,none⟩))
 fz:w.frozen? ⟨Q,z,none⟩=false∧w.frozen? ⟨Q,z+1,none⟩=false∧w.frozen? ⟨Q,z+2,none⟩=false
 own:w.ownsRow lo 86 5 lv ((List.range m).map kf).length (aE ((List.range m).map kf))
 ap:∀g,lv.ownBlock=some g→g≠Q
 pr:∀j,a≤j→j<e→kN w (B j) (yZ kf j) (if j+1<e then some ⟨B (j+1),0,none⟩else none)
 bk:∀j,a≤j→j<e→lo≤B j∧B j≠Q∧lv.ownBlock≠some (B j)
 inj:∀i j,a≤i→i<j→j<e→B i≠B j
 hQ:lo≤Q
def QS (Q:Nat) (lv:Value) (B:Nat→Nat) (a e k:Nat):Prop:=k=Q∨lv.ownBlock=some k∨(a<e∧k=B (e-1))
theorem qN.lt {w:World} {lo Q z:Nat} {lv:Value} {m:Nat} {kf:Nat→T} {B:Nat→Nat} {a e:Nat} (h:qN w lo Q z lv m kf B a e):Q<w.heap.size:=dD w _ h.cl
theorem qN.fr {P:Nat→Prop} {w w':World} {lo Q z:Nat} {lv:Value} {m:Nat} {kf:Nat→T} {B:Nat→Nat} {a e:Nat} (h:qN w lo Q z lv m kf B a e) (hf:Fr P w w') (h1:¬P Q) (h2:∀g,lv.ownBlock=some g→¬P g) (h3:∀j,a≤j→j<e→¬P (B j)):qN w' lo Q z lv m kf B a e where
 cl:=(hf.cell h.lt h1).trans h.cl
 cf:=(hf.cell h.lt h1).trans h.cf
 ct:=h.ct.imp fun v ⟨c1,c2⟩=>⟨(hf.cell h.lt h1).trans c1,c2⟩
 fz:=⟨(hf.frozen h.lt h1).trans h.fz.1,(hf.frozen h.lt h1).trans h.fz.2.1,(hf.frozen h.lt h1).trans h.fz.2.2⟩
 own:=hf.owns h.own h2
 ap:=h.ap
 pr:=fun j i1 i2=>(h.pr j i1 i2).fr hf (h3 j i1 i2)
 bk:=h.bk
 inj:=h.inj
 hQ:=h.hQ
theorem qN.below {w w':World} {lo Q z:Nat} {lv:Value} {m:Nat} {kf:Nat→T} {B:Nat→Nat} {a e:Nat} (h:qN w lo Q z lv m kf B a e) (hb:Below w.heap.size w w'):qN w' lo Q z lv m kf B a e:=h.fr (P:=fun _=>False) (aZ hb) id (fun _ _=>id) (fun _ _ _=>id)
theorem sV {Q z z':Nat} (h:z≠z'):(⟨Q,z,none⟩:Addr)≠⟨Q,z',none⟩:=fun e=>h (by injection e)
def NO (B:Nat→Nat) (e b j:Nat):Nat:=if j=e then b else B j
theorem Gu {B B':Nat→Nat} {a e e':Nat} (h:a<e) (h':a<e') (hB:B a=B' a):qF B a e=qF B' a e':=by unfold qF;rw[if_pos h,if_pos h',hB]
theorem qN.push {w:World} {lo Q z:Nat} {lv:Value} {m:Nat} {kf:Nat→T} {B:Nat→Nat} {a e:Nat} (h:qN w lo Q z lv m kf B a e) (hae:a≤e) {b:Nat} (hb:kN w b (yZ kf e) none) (hlo:lo≤b) (hbQ:b≠Q) (hbl:lv.ownBlock≠some b) (hbB:∀j,a≤j→j<e→B j≠b):qN (if a<e then(w.setCell ⟨B (e-1),12,none⟩ (.pointer (some ⟨b,0,none⟩))).setCell ⟨Q,z+2,none⟩ (.pointer (some ⟨b,0,none⟩))else(w.setCell ⟨Q,z+1,none⟩ (.pointer (some ⟨b,0,none⟩))).setCell ⟨Q,z+2,none⟩ (.pointer (some ⟨b,0,none⟩))) lo Q z lv m kf (NO B e b) a (e+1):=by
 have hub:∀j,j<e→NO B e b j=B j:=fun j hj=>if_neg (by omega);have hue:NO B e b e=b:=if_pos rfl
 obtain⟨tv,ht,_⟩:=h.ct;by_cases hlt:a<e
 ·rw[if_pos hlt];have hl:=h.bk (e-1) (by omega) (by omega)
  have f1:Fr (fun k=>k=B (e-1)) w (w.setCell ⟨B (e-1),12,none⟩ (.pointer (some ⟨b,0,none⟩))):=(Fr.refl _ w).set (fun _=>rfl);have c1:(w.setCell ⟨B (e-1),12,none⟩ (.pointer (some ⟨b,0,none⟩))).cell? ⟨Q,z+2,none⟩=some tv:=(f1.cell h.lt (fun q=>hl.2.1 q.symm)).trans ht
  generalize hw1:w.setCell ⟨B (e-1),12,none⟩ (.pointer (some ⟨b,0,none⟩))=w1 at f1 c1;have hlnk:kN w1 (B (e-1)) (yZ kf (e-1)) (some ⟨b,0,none⟩):=by rw[←hw1];exact(h.pr (e-1) (by omega) (by omega)).link _
  have f2:Fr (fun k=>k=Q) w1 (w1.setCell ⟨Q,z+2,none⟩ (.pointer (some ⟨b,0,none⟩))):=(Fr.refl _ w1).set (fun _=>rfl);have hlt1:Q<w1.heap.size:=lB h.lt f1.size
  refine⟨?_,?_,⟨_,jF c1,fun _=>by rw[show e+1-1=e by omega,hue]⟩,?_,?_,h.ap,?_,?_,?_,h.hQ⟩
  ·rw[aP (sV (by omega))];exact(f1.cell h.lt (fun q=>hl.2.1 q.symm)).trans h.cl
  ·rw[aP (sV (by omega)),(f1.cell h.lt (fun q=>hl.2.1 q.symm)).trans h.cf,Gu (B':=NO B e b) (e':=e+1) hlt (by omega) (hub a hlt).symm]
  ·simp only[World.frozen?_setCell];exact⟨(f1.frozen h.lt (fun q=>hl.2.1 q.symm)).trans h.fz.1,(f1.frozen h.lt (fun q=>hl.2.1 q.symm)).trans h.fz.2.1,(f1.frozen h.lt (fun q=>hl.2.1 q.symm)).trans h.fz.2.2⟩
  ·exact f2.owns (f1.owns h.own (fun g hg q=>hl.2.2 (by rw[hg,q]))) (fun g hg q=>h.ap g hg q)
  ·intro j j1 j2;by_cases e1:j=e
   ·subst e1;rw[hue,if_neg (by omega)];exact(hb.fr f1 (fun q=>hbB (j-1) (by omega) (by omega) q.symm)).fr f2 hbQ
   ·rw[hub j (by omega),if_pos (by omega)];by_cases e2:j=e-1
    ·have e3:j+1=e:=by omega
     rw[e3,hue,e2];exact hlnk.fr f2 hl.2.1
    ·rw[hub (j+1) (by omega)];have:=h.pr j j1 (by omega)
     rw[if_pos (by omega)]at this;exact(this.fr f1 (h.inj j (e-1) j1 (by omega) (by omega))).fr f2 (h.bk j j1 (by omega)).2.1
  ·intro j j1 j2;by_cases e1:j=e
   ·subst e1;rw[hue];exact⟨hlo,hbQ,hbl⟩
   ·rw[hub j (by omega)];exact h.bk j j1 (by omega)
  ·intro i j i1 i2 i3;rw[hub i (by omega)];by_cases e1:j=e
   ·subst e1;rw[hue];exact hbB i i1 (by omega)
   ·rw[hub j (by omega)];exact h.inj i j i1 i2 (by omega)
 ·rw[if_neg hlt];have hea:a=e:=by omega
  subst hea;have f1:Fr (fun k=>k=Q) w (w.setCell ⟨Q,z+1,none⟩ (.pointer (some ⟨b,0,none⟩))):=(Fr.refl _ w).set (fun _=>rfl)
  have f2:Fr (fun k=>k=Q) w ((w.setCell ⟨Q,z+1,none⟩ (.pointer (some ⟨b,0,none⟩))).setCell ⟨Q,z+2,none⟩ (.pointer (some ⟨b,0,none⟩))):=f1.set (fun _=>rfl);have c1:(w.setCell ⟨Q,z+1,none⟩ (.pointer (some ⟨b,0,none⟩))).cell? ⟨Q,z+2,none⟩=some tv:=(aP (sV (by omega))).trans ht
  refine⟨?_,?_,⟨_,jF c1,fun _=>by rw[show a+1-1=a by omega,hue]⟩,?_,?_,h.ap,?_,?_,?_,h.hQ⟩
  ·rw[aP (sV (by omega)),aP (sV (by omega))];exact h.cl
  ·rw[aP (sV (by omega)),jF h.cf];unfold qF;rw[if_pos (by omega),hue]
  ·simp only[World.frozen?_setCell];exact h.fz
  ·exact f2.owns h.own (fun g hg q=>h.ap g hg q)
  ·intro j j1 j2;obtain rfl:j=a:=by omega
   rw[hue,if_neg (by omega)];exact hb.fr f2 hbQ
  ·intro j j1 j2;obtain rfl:j=a:=by omega
   rw[hue];exact⟨hlo,hbQ,hbl⟩
  ·intro i j i1 i2 i3;omega
theorem qN.pop {w:World} {lo Q z:Nat} {lv:Value} {m:Nat} {kf:Nat→T} {B:Nat→Nat} {a e:Nat} (h:qN w lo Q z lv m kf B a e) (hlt:a<e):qN (w.setCell ⟨Q,z+1,none⟩ (.pointer (qF B (a+1) e))) lo Q z lv m kf B (a+1) e∧kN (w.setCell ⟨Q,z+1,none⟩ (.pointer (qF B (a+1) e))) (B a) (yZ kf a) (qF B (a+1) e):=by
 have f1:Fr (fun k=>k=Q) w (w.setCell ⟨Q,z+1,none⟩ (.pointer (qF B (a+1) e))):=(Fr.refl _ w).set (fun _=>rfl);obtain⟨tv,ht,ht2⟩:=h.ct;refine⟨⟨?_,jF h.cf,⟨tv,(aP (sV (by omega))).trans ht,fun q=>ht2 hlt⟩,by simp only[World.frozen?_setCell];exact h.fz,f1.owns h.own (fun g hg q=>h.ap g hg q),h.ap,fun j j1 j2=>(h.pr j (by omega) j2).fr f1 (h.bk j (by omega) j2).2.1,fun j j1 j2=>h.bk j (by omega) j2,fun i j i1 i2 i3=>h.inj i j (by omega) i2 i3,h.hQ⟩,?_⟩
 ·rw[aP (sV (by omega))];exact h.cl
 ·exact(h.pr a (Nat.le_refl _) hlt).fr f1 (h.bk a (Nat.le_refl _) hlt).2.1
theorem VV (w:World) (lo Q z:Nat) (lv:Value) (m:Nat) (kf:Nat→T) (B:Nat→Nat) (a e:Nat) (h:qN w lo Q z lv m kf B a e) (hlt:¬a<e):Calls Tryz.prog 79 #[.pointer (some ⟨Q,z,none⟩)] w fun r w'=>r= .returned (.pointer none)∧w'=w:=by
 have c0:=h.cf;have e0:qF B a e=none:=if_neg hlt
 rw[e0]at c0;clear h e0;go_enter Tryz.func79,Tryz.ntmps79;go_wp2;go_ret;exact⟨rfl,rfl⟩
end Go.Proofs.YtelkehjdfcoeiaaGreat
