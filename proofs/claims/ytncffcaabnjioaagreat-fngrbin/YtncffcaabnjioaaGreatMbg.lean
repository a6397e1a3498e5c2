/-
  RedAll, of the program and of the model: one answer.
  What is left of a pair of operators: the program and the model.
  GrbIn: the program and the model.
-/
import Derived.Test.YtncffcaabnjioaaGreatMbf
set_option maxHeartbeats 8000000
set_option maxRecDepth 100000
namespace Go.Proofs.YtncffcaabnjioaaGreat
open Go.RowKit Go.Deep Go.Joins Go.Maps
set_option linter.unusedVariables false
def uV (n:Nat):Option Dv→Nat
 |some _=>n
 |none=>0
def xZ:Option Dv→Nat→List T
 |some S=>S.q
 |none=>fun _=>[]
def nO:Option Dv→List T
 |some S=>S.r
 |none=>[]
theorem QR {o:Int} {p:List T} {n:Nat} {ln:Nat→Nat} {f:Nat→Nat→T}:uV n (aP o p n ln f)≤12∧(∀i,(xZ (aP o p n ln f) i).length≤300)∧(nO (aP o p n ln f)).length≤300:=by
 unfold aP;split
 ·rename_i h;have n12:=(aT h.2.2).1
  cases e:dV o n ln f 300 (jO p)with
  |none=>exact⟨gL _,fun i=>gL _,gL _⟩
  |some S=>
   obtain⟨h1,_⟩:=vY h.2.2 (iK.start h.2.1) e;exact⟨n12,fun i=>by have:=(h1.q i).2;show(S.q i).length≤300;omega,by have:=h1.r.2;show S.r.length≤300;omega⟩
 ·exact⟨gL _,fun i=>gL _,gL _⟩
theorem wY (w:World) (o:Int) (pa:Option Addr) (pc:Nat) (p:List T) (a:Option Addr) (n cap:Nat) (ad:Nat→Option Addr) (ln cp:Nat→Nat) (f:Nat→Nat→T) (hp:RL w pa pc p) (h:fZ w a n cap ad ln cp f) {R:Option Dv} (hR:aP o p n ln f=R):Calls Tryz.prog 12 #[.int .i64 o,.slice pa p.length pc,.slice a n cap] w fun r w'=>∃qa qc ad cp Rb B la lc mid,r= .returned (.tuple #[.slice qa (uV n R) qc,.slice la (nO R).length lc,.bool R.isSome])∧Below w.heap.size w w'∧jK w.heap.size w' qa (uV n R) qc ad (fun i=>(xZ R i).length) cp (fun i=>lf (xZ R i)) Rb B∧lI mid w' la lc (nO R)∧(uV n R=0∨Rb<mid)∧(∀i,i<uV n R→(xZ R i).length≠0→B i<mid)∧w.heap.size≤mid:=by
 refine(VG w o pa pc p a n cap ad ln cp f hp h).mono ?_;rw[hR];rintro r w' ⟨hb,⟨S,qa,qc,ad,cp,Rb,B,la,lc,mid,rfl,rfl,h1,h2,h3,h4,h5⟩|⟨rfl,rfl⟩⟩
 ·exact⟨qa,qc,ad,cp,Rb,B,la,lc,mid,rfl,hb,h1,h2,h3,h4,h5⟩
 ·exact⟨none,0,fun _=>none,fun _=>0,0,fun _=>0,none,0,w.heap.size,rfl,hb,⟨⟨Nat.le_refl _,gL _,.inl rfl,fun i hi=>absurd hi (MY _)⟩,.inl rfl,fun i hi=>absurd hi (MY _),fun i hi=>absurd hi (MY _),fun i j _ hj=>absurd hj (MY _)⟩,⟨⟨Nat.le_refl _,gL _,.inl rfl⟩,.inl rfl,.inl rfl⟩,.inl rfl,fun i hi=>absurd hi (MY _),Nat.le_refl _⟩
theorem VH (w:World) (o:Int) (pa:Option Addr) (pc:Nat) (p:List T) (a:Option Addr) (n cap:Nat) (ad:Nat→Option Addr) (ln cp:Nat→Nat) (f:Nat→Nat→T) (hp:RL w pa pc p) (h:fZ w a n cap ad ln cp f) {R:Option Dv} (hR:aP o p n ln f=R):Calls Tryz.prog 40 #[.int .i64 o,.slice pa p.length pc,.slice a n cap] w fun r w'=>∃qa qc ad cp ra rc,r= .returned (.tuple #[.slice qa (uV n R) qc,.slice ra (nO R).length rc,.bool R.isSome])∧Below w.heap.size w w'∧fZ w' qa (uV n R) qc ad (fun i=>(xZ R i).length) cp (fun i=>lf (xZ R i))∧RL w' ra rc (nO R):=by
 have q1:(n:Int)≤140737488351232:=by have:=h.2.1;omega
 have q2:(p.length:Int)≤140737488351232:=by have:=hp.2.1;omega
 have HP:=aA hp;have HH:=aA h
 clear hp h;have hfin:∀(W:World) (qa ra:Option Addr) (qc rc:Nat),R=none→∃qa' qc' ad cp ra' rc',Ending.returned (.tuple #[.slice qa 0 qc,.slice ra 0 rc,.bool false])= .returned (.tuple #[.slice qa' (uV n R) qc',.slice ra' (nO R).length rc',.bool R.isSome])∧fZ W qa' (uV n R) qc' ad (fun i=>(xZ R i).length) cp (fun i=>lf (xZ R i))∧RL W ra' rc' (nO R):=fun W qa ra qc rc e=>by subst e;exact⟨qa,qc,fun _=>none,fun _=>0,ra,rc,rfl,⟨gL _,gL _,.inl rfl,fun i hi=>absurd hi (MY _)⟩,⟨gL _,gL _,.inl rfl⟩⟩
 have HFIN:=aA hfin;clear hfin;by_cases hok:(1≤o∧o≤3)∧cT p=true∧aW n ln f=true
 ·have e0:dV o n ln f 300 (jO p)=R:=by rw[←hR];exact(if_pos hok).symm
  have HE:=aA e0;obtain⟨⟨o1,o2⟩,h1,h2⟩:=hok;clear e0;have HAL:=fun(W:World) (k1:RL W pa pc p) (k2:fZ W a n cap ad ln cp f)=>XJ W o pa pc p a n cap ad ln cp f k1 k2 o1 o2 h1 h2
  rw[HE.out]at HAL;have HALL:=aA HAL
  clear HAL;go_enter Tryz.func40,Tryz.ntmps40;go_wp2_with (go_at_call 62;refine(bX _ _ _ _ (by omega) (by omega)).mono ?_;rintro r w' ⟨rfl,hw'⟩;obtain rfl:=hw'.symm;clear hw');refine(gX _ _ _ _ (lf p) HP.out).mono ?_;rw[show aN p.length (lf p)=true from h1];rintro r w1 ⟨rfl,hb1⟩;have HB1:=aA hb1
  clear hb1;go_wp2_with fail;refine(qS _ _ _ _ _ _ _ _ (HH.out.below HB1.out)).mono ?_;rw[h2];rintro r w2 ⟨rfl,hb2⟩;have HB2:=aA (aB HB1.out hb2)
  clear hb2;go_wp2_with fail;refine(HALL.out w2 (Rd.below HP.out HB2.out) (HH.out.below HB2.out)).mono ?_;rintro r w3 ⟨hb3,hh⟩;have HB3:=aA (aB HB2.out hb3)
  rcases hh with⟨S,qa,qc,ad',cp',ra,rc,e1,rfl,r1,r2⟩|⟨e1,qa,qc,ra,rc,rfl⟩
  ·subst e1;have HR1:=aA r1
   have HR2:=aA r2;clear r1 r2 hb3;go_wp2;refine cB (results_tmp3 rfl _ _ _) rfl ?_;exact⟨qa,qc,ad',cp',ra,rc,rfl,HB3.out,HR1.out,HR2.out⟩
  ·have HF:=aA (HFIN.out w3 qa ra qc rc e1);clear hb3;go_wp2;refine cB (results_tmp3 rfl _ _ _) rfl ?_;obtain⟨qa',qc',ad',cp',ra',rc',e2,r1,r2⟩:=HF.out;exact⟨qa',qc',ad',cp',ra',rc',e2,HB3.out,r1,r2⟩
 ·have e0:R=none:=by rw[←hR];exact if_neg hok
  have HF:=fun(W:World) qa ra qc rc=>HFIN.out W qa ra qc rc e0;have HFF:=aA HF
  clear HF;by_cases ho:1≤o∧o≤3
  ·obtain⟨o1,o2⟩:=ho;cases h1:cT p
   ·clear hok;go_enter Tryz.func40,Tryz.ntmps40;go_wp2_with (go_at_call 62;refine(bX _ _ _ _ (by omega) (by omega)).mono ?_;rintro r w' ⟨rfl,hw'⟩;obtain rfl:=hw'.symm;clear hw');refine(gX _ _ _ _ (lf p) HP.out).mono ?_;rw[show aN p.length (lf p)=false from h1];rintro r w1 ⟨rfl,hb1⟩;have HB1:=aA hb1
    clear hb1;go_wp2;refine cB (results_tmp3 rfl _ _ _) rfl ?_;obtain⟨qa',qc',ad',cp',ra',rc',e2,r1,r2⟩:=HFF.out _ _ _ _ _;exact⟨qa',qc',ad',cp',ra',rc',e2,(HB1.out.alloc HB1.out.size _).alloc (by have:=HB1.out.size;simp;omega) _,r1,r2⟩
   ·have h2:aW n ln f=false:=by
     cases h2:aW n ln f
     ·rfl
     ·exact absurd ⟨⟨o1,o2⟩,h1,h2⟩ hok
    clear hok;go_enter Tryz.func40,Tryz.ntmps40;go_wp2_with (go_at_call 62;refine(bX _ _ _ _ (by omega) (by omega)).mono ?_;rintro r w' ⟨rfl,hw'⟩;obtain rfl:=hw'.symm;clear hw');refine(gX _ _ _ _ (lf p) HP.out).mono ?_;rw[show aN p.length (lf p)=true from h1];rintro r w1 ⟨rfl,hb1⟩;have HB1:=aA hb1
    clear hb1;go_wp2_with fail;refine(qS _ _ _ _ _ _ _ _ (HH.out.below HB1.out)).mono ?_;rw[h2];rintro r w2 ⟨rfl,hb2⟩;have HB2:=aA (aB HB1.out hb2)
    clear hb2;go_wp2;refine cB (results_tmp3 rfl _ _ _) rfl ?_;obtain⟨qa',qc',ad',cp',ra',rc',e2,r1,r2⟩:=HFF.out _ _ _ _ _;exact⟨qa',qc',ad',cp',ra',rc',e2,(HB2.out.alloc HB2.out.size _).alloc (by have:=HB2.out.size;simp;omega) _,r1,r2⟩
  ·have ho':o<1∨(1≤o∧3<o):=by omega
   clear hok ho;go_enter Tryz.func40,Tryz.ntmps40;go_wp2_with (go_at_call 62;refine(dJ _ _ _ _ ho').mono ?_;rintro r w' ⟨rfl,hw'⟩;obtain rfl:=hw'.symm;clear hw');refine cB (results_tmp3 rfl _ _ _) rfl ?_;obtain⟨qa',qc',ad',cp',ra',rc',e2,r1,r2⟩:=HFF.out _ _ _ _ _;exact⟨qa',qc',ad',cp',ra',rc',e2,aQ _ _ _,r1,r2⟩
end Go.Proofs.YtncffcaabnjioaaGreat
namespace Go.Proofs.YtncffcaabnjioaaGreat
open Go.RowKit Go.Deep Go.Joins
set_option linter.unusedVariables false
theorem ZC (w:World) (u v:T) (a b:Option Addr) (n ca m cb:Nat) (f g:Nat→T) (ha:Rd w a n ca f) (hb:Rd w b m cb g):Calls Tryz.prog 95 #[.agg #[.int .i64 u.c,.int .i64 u.m.x,.int .i64 u.m.y,.int .i64 u.m.d,.int .i64 u.m.e,.int .i64 v.c,.int .i64 v.m.x,.int .i64 v.m.y,.int .i64 v.m.d,.int .i64 v.m.e],.slice a n ca,.slice b m cb] w fun r w'=>∃a' cap',r= .returned (.tuple #[.slice a' (kQ u v f n g m).1.length cap',.bool (kQ u v f n g m).2])∧Below w.heap.size w w'∧lI w.heap.size w' a' cap' (kQ u v f n g m).1:=by
 have HA:=aA ha;have HB:=aA hb
 have hla:(n:Int)≤140737488351232:=by have:=ha.2.1;omega
 have hlb:(m:Int)≤140737488351232:=by have:=hb.2.1;omega
 have hc1:=fun(W:World) (A:Nat) (h:RL W (some ⟨A,0,none⟩) 1 [u]) (h':Rd W a n ca f)=>vJ W (some ⟨A,0,none⟩) a 1 1 n ca (lf [u]) f h h';have hc2:=fun(W:World) (A:Nat) (h:RL W (some ⟨A,0,none⟩) 1 [v]) (h':Rd W b m cb g)=>vJ W (some ⟨A,0,none⟩) b 1 1 m cb (lf [v]) g h h'
 have hl1:=qY (lf [u]) 1 f n;have hl2:=qY (lf [v]) 1 g m
 clear ha hb;unfold kQ;generalize bJ (lf [u]) 1 f n=p at *;generalize bJ (lf [v]) 1 g m=q at *;obtain⟨X,k1⟩:=p;obtain⟨Y,k2⟩:=q;dsimp only at hc1 hc2 hl1 hl2⊢;have hru:=gK (w.alloc (.cells #[.int .i64 u.c,.int .i64 u.m.x,.int .i64 u.m.y,.int .i64 u.m.d,.int .i64 u.m.e,.int .i64 v.c,.int .i64 v.m.x,.int .i64 v.m.y,.int .i64 v.m.d,.int .i64 v.m.e] 125)) u
 rw[World.size_alloc]at hru;have HRU:=aA hru
 have HB0:=aA (aQ w (.cells #[.int .i64 u.c,.int .i64 u.m.x,.int .i64 u.m.y,.int .i64 u.m.d,.int .i64 u.m.e,.int .i64 v.c,.int .i64 v.m.x,.int .i64 v.m.y,.int .i64 v.m.d,.int .i64 v.m.e] 125) (.cells #[.int .i64 u.c,.int .i64 u.m.x,.int .i64 u.m.y,.int .i64 u.m.d,.int .i64 u.m.e] 47));clear hru;have hnil:∀(W:World),lI w.heap.size W none 0 ([]:List T):=fun W=>⟨⟨Nat.le_refl _,by simp,.inl rfl⟩,.inl rfl,.inl rfl⟩
 have HN:=aA hnil;clear hnil;by_cases hk:k1=true∧k2=true
 ·obtain⟨rfl,rfl⟩:=hk;rw[if_pos ⟨rfl,rfl⟩];go_enter Tryz.func95,Tryz.ntmps95;go_wp2_with fail;refine(hc1 _ _ HRU.out (HA.out.below HB0.out)).mono ?_;rintro r w1 ⟨a1,c1,rfl,hb1,ho1⟩;obtain⟨hcc,hff⟩:=aO hb1;have HB1:=aA (aB HB0.out hb1)
  have HX1:=aA ho1.1;have HBV:=aA (HB1.out.alloc HB1.out.size (.cells #[.int .i64 v.c,.int .i64 v.m.x,.int .i64 v.m.y,.int .i64 v.m.d,.int .i64 v.m.e] 47))
  clear hb1 ho1;go_wp2_with fail;clear hcc hff;refine(hc2 _ _ (gK w1 v) (HB.out.below HBV.out)).mono ?_;rintro r w2 ⟨a2,c2,rfl,hb2,ho2⟩;have HB2:=aA (aB HBV.out hb2)
  have HX2:=aA ((HX1.out.below (aC w1 (.cells #[.int .i64 v.c,.int .i64 v.m.x,.int .i64 v.m.y,.int .i64 v.m.d,.int .i64 v.m.e] 47))).below hb2);have HY2:=aA ho2.1
  clear hb2 ho2 HX1 HB1 HBV;go_wp2_with (go_at_call 18;refine(JB _ _ _ _ _ _ _ (lf X) (lf Y) HX2.out HY2.out).mono ?_;rintro r w3 ⟨a3,c3,rfl,hb3,ho3⟩);refine cB (results_tmp2 rfl _ _ _) rfl ?_;exact⟨a3,c3,rfl,aB HB2.out hb3,UY ho3 HB2.out.size⟩
 ·rw[if_neg hk];have hk':(!k1|| !k2)=true:=by cases k1<;>cases k2<;>simp at hk⊢
  go_enter Tryz.func95,Tryz.ntmps95;go_wp2_with fail;refine(hc1 _ _ HRU.out (HA.out.below HB0.out)).mono ?_;rintro r w1 ⟨a1,c1,rfl,hb1,ho1⟩;obtain⟨hcc,hff⟩:=aO hb1;have HB1:=aA (aB HB0.out hb1)
  have HX1:=aA ho1.1;have HBV:=aA (HB1.out.alloc HB1.out.size (.cells #[.int .i64 v.c,.int .i64 v.m.x,.int .i64 v.m.y,.int .i64 v.m.d,.int .i64 v.m.e] 47))
  clear hb1 ho1;go_wp2_with fail;clear hcc hff;refine(hc2 _ _ (gK w1 v) (HB.out.below HBV.out)).mono ?_;rintro r w2 ⟨a2,c2,rfl,hb2,ho2⟩;have HB2:=aA (aB HBV.out hb2)
  have HX2:=aA ((HX1.out.below (aC w1 (.cells #[.int .i64 v.c,.int .i64 v.m.x,.int .i64 v.m.y,.int .i64 v.m.d,.int .i64 v.m.e] 47))).below hb2);have HY2:=aA ho2.1
  clear hb2 ho2 HX1 HB1 HBV;cases k1
  ·go_wp2;refine cB (results_tmp2 rfl _ _ _) rfl ?_;exact⟨none,0,rfl,HB2.out,HN.out w2⟩
  ·cases k2
   ·go_wp2;refine cB (results_tmp2 rfl _ _ _) rfl ?_;exact⟨none,0,rfl,HB2.out,HN.out w2⟩
   ·exact absurd ⟨rfl,rfl⟩ hk
theorem RO (w:World) (o:Int) (a b:Option Addr) (n ca m cb:Nat) (f g:Nat→T) (ha:Rd w a n ca f) (hb:Rd w b m cb g):Calls Tryz.prog 154 #[.int .i64 o,.slice a n ca,.slice b m cb] w fun r w'=>∃v,r= .returned (.tuple #[v,.bool (dC o f n g m).2])∧Below w.heap.size w w'∧w'.ownsRow w.heap.size 47 5 v (dC o f n g m).1.length (aF (dC o f n g m).1):=by
 have HA:=aA ha;have HB:=aA hb
 have hla:(n:Int)≤140737488351232:=by have:=ha.2.1;omega
 have hlb:(m:Int)≤140737488351232:=by have:=hb.2.1;omega
 have hcall:=zH w o a n ca f b m cb g ha hb;clear ha hb;unfold dC;obtain⟨U,hU⟩:∃U,fC o n f m g=U:=⟨_,rfl⟩
 obtain⟨V,hV⟩:∃V,fD o n f m g=V:=⟨_,rfl⟩
 cases hok:eZ o n f m g
 ·rw[hU,hV,hok]at hcall;rw[if_neg (by simp)];clear hU hV hok;go_enter Tryz.func154,Tryz.ntmps154;go_wp2_with fail;refine hcall.mono ?_;rintro r w1 ⟨rfl,hb1⟩;have HB1:=aA hb1
  clear hb1 hcall;have HB2:=aA (HB1.out.alloc HB1.out.size (.cells #[.int .i64 U.c,.int .i64 U.m.x,.int .i64 U.m.y,.int .i64 U.m.d,.int .i64 U.m.e] 47))
  have HB3:=aA (HB2.out.alloc HB2.out.size (.cells #[.int .i64 V.c,.int .i64 V.m.x,.int .i64 V.m.y,.int .i64 V.m.d,.int .i64 V.m.e] 47));have hnn:=cD ((w1.alloc (.cells #[.int .i64 U.c,.int .i64 U.m.x,.int .i64 U.m.y,.int .i64 U.m.d,.int .i64 U.m.e] 47)).alloc (.cells #[.int .i64 V.c,.int .i64 V.m.x,.int .i64 V.m.y,.int .i64 V.m.d,.int .i64 V.m.e] 47)) w.heap.size HB3.out.size
  rw[World.size_alloc,World.size_alloc]at hnn;have HNN:=aA hnn
  clear hnn;go_wp2;refine cB (results_tmp2 rfl _ _ _) rfl ?_;exact⟨_,rfl,HB3.out.alloc HB3.out.size _,HNN.out⟩
 ·obtain⟨gU,gV⟩:=sM hok;have hk:=hok
  unfold eZ at hk;rw[Bool.and_eq_true]at hk;have p1:=(kD hk.1).2.1
  have p2:=(kD hk.2).2.1;rw[hU]at gU;rw[hV]at gV;rw[hU,hV,hok]at hcall;rw[if_pos rfl,hU,hV,LO gU gV p1 p2];obtain⟨l1,g1⟩:=bV p1;have gs:mO (lf [U]) 1:=fun i hi=>by
   obtain rfl:i=0:=by omega
   exact⟨gU.1,by show 0≤U.c;omega,gU.2.2⟩
  have hm:=fun(W:World) (A:Nat) (h:RL W (some ⟨A,0,none⟩) 1 [U]) (h':Rd W a n ca f)=>IU W (some ⟨A,0,none⟩) a 1 1 n ca (lf [U]) f h h' (by omega) l1 gs g1;have HGS:=aA gs
  have HG1:=aA g1;have HP2:=aA p2
  have HGV:=aA gV;clear hU hV hok hk gU gV gs g1 p1 p2;cases hX:bY (lf [U]) f n 1 with
  |none=>
   rw[hX]at hm;simp only[iR]at hm;go_enter Tryz.func154,Tryz.ntmps154;go_wp2_with fail;refine hcall.mono ?_;rintro r w1 ⟨rfl,hb1⟩;have HB1:=aA hb1
   clear hb1 hcall;have HB2:=aA (HB1.out.alloc HB1.out.size (.cells #[.int .i64 U.c,.int .i64 U.m.x,.int .i64 U.m.y,.int .i64 U.m.d,.int .i64 U.m.e] 47))
   have HB3:=aA (HB2.out.alloc HB2.out.size (.cells #[.int .i64 V.c,.int .i64 V.m.x,.int .i64 V.m.y,.int .i64 V.m.d,.int .i64 V.m.e] 47));have HB4:=aA (HB3.out.alloc HB3.out.size (.cells #[.int .i64 U.c,.int .i64 U.m.x,.int .i64 U.m.y,.int .i64 U.m.d,.int .i64 U.m.e] 47))
   have hru:=gK ((w1.alloc (.cells #[.int .i64 U.c,.int .i64 U.m.x,.int .i64 U.m.y,.int .i64 U.m.d,.int .i64 U.m.e] 47)).alloc (.cells #[.int .i64 V.c,.int .i64 V.m.x,.int .i64 V.m.y,.int .i64 V.m.d,.int .i64 V.m.e] 47)) U;rw[World.size_alloc,World.size_alloc]at hru;have HRU:=aA hru
   clear hru;go_wp2_with fail;refine(hm _ _ HRU.out (HA.out.below HB4.out)).mono ?_;rintro r w2 ⟨v2,rfl,hb2,ho2⟩;have HB5:=aA (aB HB4.out hb2)
   clear hb2 ho2 hm;go_wp2;refine cB (results_tmp2 rfl _ _ _) rfl ?_;exact⟨_,rfl,HB5.out.alloc HB5.out.size _,cD _ w.heap.size HB5.out.size⟩
  |some X=>
   have fX:=dA HGS.out HG1.out 1 X (Nat.le_refl _) hX;have lX:=fT 1 X hX
   have HFX:=aA fX;rw[hX]at hm;simp only[iR]at hm;have hless:=fun(W:World) (pa:Option Addr) (pc:Nat) (h:RL W pa pc X) (h':Rd W b m cb g)=>IJ W pa pc X V b m cb g h lX HFX.out HGV.out h' HP2.out
   dsimp only;generalize mL X V g m=D at hless⊢;clear fX hX;go_enter Tryz.func154,Tryz.ntmps154;go_wp2_with fail;refine hcall.mono ?_;rintro r w1 ⟨rfl,hb1⟩;have HB1:=aA hb1
   clear hb1 hcall;have HB2:=aA (HB1.out.alloc HB1.out.size (.cells #[.int .i64 U.c,.int .i64 U.m.x,.int .i64 U.m.y,.int .i64 U.m.d,.int .i64 U.m.e] 47))
   have HC3:=aA (C5.box (w1.alloc (.cells #[.int .i64 U.c,.int .i64 U.m.x,.int .i64 U.m.y,.int .i64 U.m.d,.int .i64 U.m.e] 47)) 47 V);have HB3:=aA (HB2.out.alloc HB2.out.size (.cells #[.int .i64 V.c,.int .i64 V.m.x,.int .i64 V.m.y,.int .i64 V.m.d,.int .i64 V.m.e] 47))
   have HB4:=aA (HB3.out.alloc HB3.out.size (.cells #[.int .i64 U.c,.int .i64 U.m.x,.int .i64 U.m.y,.int .i64 U.m.d,.int .i64 U.m.e] 47));have hru:=gK ((w1.alloc (.cells #[.int .i64 U.c,.int .i64 U.m.x,.int .i64 U.m.y,.int .i64 U.m.d,.int .i64 U.m.e] 47)).alloc (.cells #[.int .i64 V.c,.int .i64 V.m.x,.int .i64 V.m.y,.int .i64 V.m.d,.int .i64 V.m.e] 47)) U
   rw[World.size_alloc,World.size_alloc]at hru;have HRU:=aA hru
   clear hru;go_wp2_with fail;refine(hm _ _ HRU.out (HA.out.below HB4.out)).mono ?_;rintro r w2 ⟨v2,rfl,hb2,ho2⟩;obtain⟨a2,c2,rfl,hout⟩:=aH ho2 (by omega);have HB5:=aA (aB HB4.out hb2)
   have hC5:=(HC3.out.below (aC _ (.cells #[.int .i64 U.c,.int .i64 U.m.x,.int .i64 U.m.y,.int .i64 U.m.d,.int .i64 U.m.e] 47))).below hb2;have HX2:=aA hout.1
   rw[World.size_alloc]at hC5;obtain⟨r0,r1,r2,r3,r4⟩:=hC5;clear hb2 ho2 hm hout;go_wp2_with fail;clear r0 r1 r2 r3 r4;refine(hless _ _ _ HX2.out (HB.out.below HB5.out)).mono ?_;rintro r w3 ⟨v3,rfl,hb3,ho3⟩;have HB6:=aA (aB HB5.out hb3)
   have HO6:=aA (gE ho3 HB5.out.size);clear hb3 ho3;go_wp2;refine cB (results_tmp2 rfl _ _ _) rfl ?_;exact⟨_,rfl,HB6.out,HO6.out⟩
open Go.RowKit Go.Deep Go.Joins Go.Maps
def nZ (R:Option Dv):Bool:=R.isSome&&decide ((nO R).length=0)
theorem dH (w:World) (o:Int) (pa:Option Addr) (pc:Nat) (p:List T) (a:Option Addr) (n cap:Nat) (ad:Nat→Option Addr) (ln cp:Nat→Nat) (f:Nat→Nat→T) (hp:RL w pa pc p) (h:fZ w a n cap ad ln cp f) {R:Option Dv} (hR:aP o p n ln f=R):Calls Tryz.prog 10 #[.int .i64 o,.slice a n cap,.slice pa p.length pc] w fun r w'=>r= .returned (.tuple #[.bool (nZ R),.bool R.isSome])∧Below w.heap.size w w':=by
 have HC:=aA (wY w o pa pc p a n cap ad ln cp f hp h hR);have hbd:=(QR (o:=o) (p:=p) (n:=n) (ln:=ln) (f:=f)).2.2
 rw[hR]at hbd;clear hp h hR;cases R with
 |none=>
  go_enter Tryz.func10,Tryz.ntmps10;go_wp2_with fail;refine HC.out.mono ?_;rintro r w1 ⟨qa,qc,ad',cp',Rb,B,la,lc,mid,rfl,hb,_⟩;have HB:=aA hb
  simp only[Option.isSome];clear hb HC;go_wp2;refine cB (results_tmp2 rfl _ _ _) rfl ?_;exact⟨rfl,HB.out⟩
 |some S=>
  have hl:(S.r.length:Int)≤300:=by have:S.r.length≤300:=hbd;omega
  by_cases h0:S.r.length=0
  ·have hi:((S.r.length:Int)==0)=true:=by simpa using h0
   have HG:Hid (nZ (some S)=true):=by show nZ (some S)=true;simp[nZ,nO,h0]
   clear h0;go_enter Tryz.func10,Tryz.ntmps10;go_wp2_with fail;refine HC.out.mono ?_;rintro r w1 ⟨qa,qc,ad',cp',Rb,B,la,lc,mid,rfl,hb,_⟩;have HB:=aA hb
   simp only[Option.isSome,nO];clear hb HC;go_wp2;refine cB (results_tmp2 rfl _ _ _) rfl ?_;rw[HG.out];exact⟨rfl,HB.out⟩
  ·have hi:((S.r.length:Int)==0)=false:=by simpa using h0
   have HG:Hid (nZ (some S)=false):=by show nZ (some S)=false;simp[nZ,nO,h0]
   clear h0;go_enter Tryz.func10,Tryz.ntmps10;go_wp2_with fail;refine HC.out.mono ?_;rintro r w1 ⟨qa,qc,ad',cp',Rb,B,la,lc,mid,rfl,hb,_⟩;have HB:=aA hb
   simp only[Option.isSome,nO];clear hb HC;go_wp2;refine cB (results_tmp2 rfl _ _ _) rfl ?_;rw[HG.out];exact⟨rfl,HB.out⟩
theorem mY (w:World) (o:Int) (pa:Option Addr) (pc:Nat) (p:List T) (a:Option Addr) (n cap:Nat) (ad:Nat→Option Addr) (ln cp:Nat→Nat) (f:Nat→Nat→T) (hp:RL w pa pc p) (h:fZ w a n cap ad ln cp f) {R:Option Dv} (hR:aP o p n ln f=R):Calls Tryz.prog 11 #[.int .i64 o,.slice a n cap,.slice pa p.length pc] w fun r w'=>r= .returned (.tuple #[.bool (nZ R),.bool R.isSome])∧Below w.heap.size w w':=by
 have HC:=aA (VH w o pa pc p a n cap ad ln cp f hp h hR);have hbd:=(QR (o:=o) (p:=p) (n:=n) (ln:=ln) (f:=f)).2.2
 rw[hR]at hbd;clear hp h hR;cases R with
 |none=>
  go_enter Tryz.func11,Tryz.ntmps11;go_wp2_with fail;refine HC.out.mono ?_;rintro r w1 ⟨qa,qc,ad',cp',ra,rc,rfl,hb,_⟩;have HB:=aA hb
  simp only[Option.isSome];clear hb HC;go_wp2;refine cB (results_tmp2 rfl _ _ _) rfl ?_;exact⟨rfl,HB.out⟩
 |some S=>
  have hl:(S.r.length:Int)≤300:=by have:S.r.length≤300:=hbd;omega
  by_cases h0:S.r.length=0
  ·have hi:((S.r.length:Int)==0)=true:=by simpa using h0
   have HG:Hid (nZ (some S)=true):=by show nZ (some S)=true;simp[nZ,nO,h0]
   clear h0;go_enter Tryz.func11,Tryz.ntmps11;go_wp2_with fail;refine HC.out.mono ?_;rintro r w1 ⟨qa,qc,ad',cp',ra,rc,rfl,hb,_⟩;have HB:=aA hb
   simp only[Option.isSome,nO];clear hb HC;go_wp2;refine cB (results_tmp2 rfl _ _ _) rfl ?_;rw[HG.out];exact⟨rfl,HB.out⟩
  ·have hi:((S.r.length:Int)==0)=false:=by simpa using h0
   have HG:Hid (nZ (some S)=false):=by show nZ (some S)=false;simp[nZ,nO,h0]
   clear h0;go_enter Tryz.func11,Tryz.ntmps11;go_wp2_with fail;refine HC.out.mono ?_;rintro r w1 ⟨qa,qc,ad',cp',ra,rc,rfl,hb,_⟩;have HB:=aA hb
   simp only[Option.isSome,nO];clear hb HC;go_wp2;refine cB (results_tmp2 rfl _ _ _) rfl ?_;rw[HG.out];exact⟨rfl,HB.out⟩
end Go.Proofs.YtncffcaabnjioaaGreat
