/-
  What is left of a pair of operators: the program and the model.
-/
import Derived.Test.YtelkehjdfcoeiaaGreatNas
import Derived.Test.YtelkehjdfcoeiaaGreatNat
set_option maxHeartbeats 8000000
set_option maxRecDepth 100000
namespace Go.Proofs.YtelkehjdfcoeiaaGreat
open Go.RowKit Go.Deep Go.Joins
set_option linter.unusedVariables false
theorem UZ {lo lo':Nat} {w:World} {a:Option Addr} {cap:Nat} {L:List T} (h:gX lo w a cap L) (hl:lo'≤lo):gX lo' w a cap L:=⟨h.1,h.2.1,h.2.2.imp id (fun⟨g,off,he,hlo⟩=>⟨g,off,he,gW hl hlo⟩)⟩
theorem gB {t:T} (h:t.m.ok=true∧1≤t.c∧t.c≤100):cJ [t]=true:=
 fO (by simp) ⟨List.pairwise_singleton _ _,fun s hs=>by simp at hs;subst hs;exact h⟩
def kV (u v:T) (f:Nat→T) (n:Nat) (g:Nat→T) (m:Nat):List T×Bool:=
 if(aZ (lf [u]) 1 f n).2=true∧(aZ (lf [v]) 1 g m).2=true then iO (lf (aZ (lf [u]) 1 f n).1) (aZ (lf [u]) 1 f n).1.length (lf (aZ (lf [v]) 1 g m).1) (aZ (lf [v]) 1 g m).1.length else([],false)
theorem KT (u v:T) (f:Nat→T) (n:Nat) (g:Nat→T) (m:Nat):(kV u v f n g m).1.length≤400:=by
 unfold kV;split
 ·exact vY _ _ _ _
 ·simp
def dH (o:Int) (f:Nat→T) (n:Nat) (g:Nat→T) (m:Nat):List T×Bool:=
 if eQ o n f m g=true then kV (eR o n f m g) (eS o n f m g) f n g m else([],false)
theorem EH (o:Int) (f:Nat→T) (n:Nat) (g:Nat→T) (m:Nat):(dH o f n g m).1.length≤400:=by
 unfold dH;split
 ·exact KT _ _ _ _ _ _
 ·simp
def mC (L:List T) (t:T) (g:Nat→T) (m:Nat):List T×Bool:=
 match bN (lf [t]) g m 1 with
 |none=>([],false)
 |some Y=>if(bY L Y).length≤400 then(bY L Y,true)else([],false)
theorem LK (L:List T) (t:T) (g:Nat→T) (m:Nat):(mC L t g m).1.length≤400:=by
 unfold mC;split
 ·simp
 ·split
  ·assumption
  ·simp
theorem PL {t:T} (ht:t.m.ok=true∧1≤t.c∧t.c≤100) {g:Nat→T} {m:Nat} (hg:mH g m):bN (lf [⟨101-t.c,t.m⟩]) g m 1=(bN (lf [t]) g m 1).map (jA 100):=by
 refine uM (by omega) (by omega) (f:=lf [t]) (la:=1) (fun i hi=>?_) hg (fun i hi=>?_) 1 (Nat.le_refl _)
 ·obtain rfl:i=0:=by omega
  exact⟨ht.1,by show 0≤t.c;omega,ht.2.2⟩
 ·obtain rfl:i=0:=by omega
  show(⟨101-t.c,t.m⟩:T)=⟨100*t.c%101,t.m⟩
  congr 1;omega
theorem LM {u v:T} {f:Nat→T} {n:Nat} {g:Nat→T} {m:Nat} (hu:u.m.ok=true∧1≤u.c∧u.c≤100) (hv:v.m.ok=true∧1≤v.c∧v.c≤100) (hf:aK n f=true) (hg:aK m g=true):kV u v f n g m=match bN (lf [u]) f n 1 with|none=>([],false)|some X=>mC X v g m:=by
 have o1:aK 1 (lf [u])=true:=gB hu;have o2:aK 1 (lf [v])=true:=gB hv
 have e1:aZ (lf [u]) 1 f n=iN (bN (lf [u]) f n 1):=if_pos ⟨o1,hf⟩;have e2:aZ (lf [v]) 1 g m=iN (bN (lf [v]) g m 1):=if_pos ⟨o2,hg⟩
 unfold kV;rw[e1,e2];cases hX:bN (lf [u]) f n 1 with
 |none=>exact if_neg (by simp[iN])
 |some X=>
  unfold mC;cases hY:bN (lf [v]) g m 1 with
  |none=>exact if_neg (by simp[iN])
  |some Y=>
   have kX:cJ X=true:=fO (eJ _ X hX) (cE (bL o1).2 (bL hf).2 _ X (Nat.le_refl _) hX);have kY:cJ Y=true:=fO (eJ _ Y hY) (cE (bL o2).2 (bL hg).2 _ Y (Nat.le_refl _) hY)
   rw[if_pos (by simp[iN])];show rZ X Y=if(bY X Y).length≤400 then(bY X Y,true)else([],false)
   by_cases hl:(bY X Y).length≤400
   ·rw[if_pos hl,AW kX kY hl]
   ·rw[if_neg hl];rcases tK X Y with h|⟨_,_,h,_⟩
    ·exact h
    ·exact absurd h hl
theorem IK (w:World) (pa:Option Addr) (pc:Nat) (L:List T) (t:T) (b:Option Addr) (m cb:Nat) (g:Nat→T) (hp:RL w pa pc L) (hl:L.length≤400) (hL:aH L) (ht:t.m.ok=true∧1≤t.c∧t.c≤100) (hb:Rd w b m cb g) (hg:aK m g=true):Calls Tryz.prog 116 #[.slice pa L.length pc,.agg #[.int .i64 t.c,.int .i64 t.m.x,.int .i64 t.m.y,.int .i64 t.m.d,.int .i64 t.m.e],.slice b m cb] w fun r w'=>∃v,r= .returned (.tuple #[v,.bool (mC L t g m).2])∧Below w.heap.size w w'∧w'.ownsRow w.heap.size 86 5 v (mC L t g m).1.length (aE (mC L t g m).1):=by
 obtain⟨l2,gg⟩:=bL hg;have HP:=aA hp
 have HG:=aA hb;have HL:=aA hL
 have hmn:=PL ht gg;obtain⟨t0,t1,t2⟩:=ht;have gs:mH (lf [(⟨101-t.c,t.m⟩:T)]) 1:=fun i hi=>by
  obtain rfl:i=0:=by omega
  exact⟨t0,by show 0≤101-t.c;omega,by show 101-t.c≤100;omega⟩
 have gt:mH (lf [t]) 1:=fun i hi=>by
  obtain rfl:i=0:=by omega
  exact⟨t0,by show 0≤t.c;omega,t2⟩
 have hcall:=fun(W:World) (h:RL W (some ⟨w.heap.size+1,0,none⟩) 1 [(⟨101-t.c,t.m⟩:T)]) (h':Rd W b m cb g)=>PM W (some ⟨w.heap.size+1,0,none⟩) b 1 1 m cb (lf [(⟨101-t.c,t.m⟩:T)]) g h h' (by omega) l2 gs gg;rw[hmn]at hcall;have HGT:=aA gt
 have HGG:=aA gg;clear hp hb hL gs gt gg hmn;unfold mC;have hrl:=fQ (w.alloc (.cells #[.int .i64 t.c,.int .i64 t.m.x,.int .i64 t.m.y,.int .i64 t.m.d,.int .i64 t.m.e] 86)) (⟨101-t.c,t.m⟩:T)
 rw[World.size_alloc]at hrl;have HRL:=aA hrl
 have HBL:=aA (aN w (.cells #[.int .i64 t.c,.int .i64 t.m.x,.int .i64 t.m.y,.int .i64 t.m.d,.int .i64 t.m.e] 86) (.cells #[.int .i64 (101-t.c),.int .i64 t.m.x,.int .i64 t.m.y,.int .i64 t.m.d,.int .i64 t.m.e] 86));clear hrl;cases hY:bN (lf [t]) g m 1 with
 |none=>
  rw[hY]at hcall;simp only[Option.map_none,iN]at hcall;go_enter Tryz.func116,Tryz.ntmps116;go_wp2_with fail;refine(hcall _ HRL.out (HG.out.below HBL.out)).mono ?_;rintro r w1 ⟨v1,rfl,hb1,ho1⟩;have HB1:=aA (aB HBL.out hb1)
  clear hb1 ho1 hcall;go_wp2;refine cV (results_tmp2 rfl _ _ _) rfl ?_;exact⟨_,rfl,HB1.out.alloc HB1.out.size _,dM w1 w.heap.size HB1.out.size⟩
 |some Y=>
  have fY:=cE HGT.out HGG.out 1 Y (Nat.le_refl _) hY;have lY:=eJ 1 Y hY
  have fS:=fM (c:=100) (by omega) (by omega) fY;have lS:=fU 100 Y
  have hsl:=wL L Y;rw[hY]at hcall;simp only[Option.map_some,iN]at hcall;obtain⟨Z,hZ⟩:∃Z,jA 100 Y=Z:=⟨_,rfl⟩
  rw[hZ]at hcall fS lS;have hadd:bY L Y=cG L Z:=by rw[←hZ];rfl
  dsimp only;rw[hadd]at hsl⊢;have lZ:Z.length≤400:=by omega
  have c1:Hid (∀i,i<L.length→0≤(lf L i).c∧(lf L i).c≤100):=fun i hi=>by have:=(tT HL.out).2 i hi;omega
  have c2:Hid (∀i,i<Z.length→0≤(lf Z i).c∧(lf Z i).c≤100):=fun i hi=>by have:=(tT fS).2 i hi;omega
  have HAD:Hid (fG (lf L) L.length (lf Z) Z.length 0 0=cG L Z):=rfl;obtain⟨R,hR⟩:∃R,cG L Z=R:=⟨_,rfl⟩
  rw[hR]at hsl HAD⊢;have hRl:R.length≤1000:=by omega
  clear hZ hadd hR fS fY lS hsl;by_cases hle:R.length≤400
  ·have hg4:¬(400:Int)<(R.length:Int):=by omega
   rw[if_pos hle];go_enter Tryz.func116,Tryz.ntmps116;go_wp2_with fail;refine(hcall _ HRL.out (HG.out.below HBL.out)).mono ?_;rintro r w1 ⟨v1,rfl,hb1,ho1⟩;obtain⟨a1,k1,rfl,hout⟩:=aM ho1 (by omega);have HB1:=aA (aB HBL.out hb1)
   have HZ1:=aA hout.1;clear hb1 ho1 hout hcall;go_wp2_with fail;refine(nV _ _ _ _ _ _ _ (lf L) (lf Z) (HP.out.below HB1.out) HZ1.out (by omega) c1.out c2.out).mono ?_;rw[HAD.out];rintro r w2 ⟨v2,rfl,hb2,ho2⟩;have HB2:=aA (aB HB1.out hb2)
   have HO2:=aA (gD ho2 HB1.out.size);obtain⟨a2,k2,rfl,hout⟩:=aM ho2 (by omega);clear hb2 ho2 hout;go_wp2;refine cV (results_tmp2 rfl _ _ _) rfl ?_;exact⟨_,rfl,HB2.out,HO2.out⟩
  ·have hg4:(400:Int)<(R.length:Int):=by omega
   rw[if_neg hle];go_enter Tryz.func116,Tryz.ntmps116;go_wp2_with fail;refine(hcall _ HRL.out (HG.out.below HBL.out)).mono ?_;rintro r w1 ⟨v1,rfl,hb1,ho1⟩;obtain⟨a1,k1,rfl,hout⟩:=aM ho1 (by omega);have HB1:=aA (aB HBL.out hb1)
   have HZ1:=aA hout.1;clear hb1 ho1 hout hcall;go_wp2_with fail;refine(nV _ _ _ _ _ _ _ (lf L) (lf Z) (HP.out.below HB1.out) HZ1.out (by omega) c1.out c2.out).mono ?_;rw[HAD.out];rintro r w2 ⟨v2,rfl,hb2,ho2⟩;have HB2:=aA (aB HB1.out hb2)
   have HO2:=aA (gD ho2 HB1.out.size);obtain⟨a2,k2,rfl,hout⟩:=aM ho2 (by omega);clear hb2 ho2 hout;go_wp2;refine cV (results_tmp2 rfl _ _ _) rfl ?_;exact⟨_,rfl,HB2.out.alloc HB2.out.size _,dM w2 w.heap.size HB2.out.size⟩
theorem ZR (w:World) (u v:T) (a b:Option Addr) (n ca m cb:Nat) (f g:Nat→T) (ha:Rd w a n ca f) (hb:Rd w b m cb g):Calls Tryz.prog 101 #[.agg #[.int .i64 u.c,.int .i64 u.m.x,.int .i64 u.m.y,.int .i64 u.m.d,.int .i64 u.m.e,.int .i64 v.c,.int .i64 v.m.x,.int .i64 v.m.y,.int .i64 v.m.d,.int .i64 v.m.e],.slice a n ca,.slice b m cb] w fun r w'=>∃a' cap',r= .returned (.tuple #[.slice a' (kV u v f n g m).1.length cap',.bool (kV u v f n g m).2])∧Below w.heap.size w w'∧gX w.heap.size w' a' cap' (kV u v f n g m).1:=by
 have HA:=aA ha;have HB:=aA hb
 have hla:(n:Int)≤140737488351232:=by have:=ha.2.1;omega
 have hlb:(m:Int)≤140737488351232:=by have:=hb.2.1;omega
 have hc1:=fun(W:World) (A:Nat) (h:RL W (some ⟨A,0,none⟩) 1 [u]) (h':Rd W a n ca f)=>uO W (some ⟨A,0,none⟩) a 1 1 n ca (lf [u]) f h h';have hc2:=fun(W:World) (A:Nat) (h:RL W (some ⟨A,0,none⟩) 1 [v]) (h':Rd W b m cb g)=>uO W (some ⟨A,0,none⟩) b 1 1 m cb (lf [v]) g h h'
 have hl1:=qH (lf [u]) 1 f n;have hl2:=qH (lf [v]) 1 g m
 clear ha hb;unfold kV;generalize aZ (lf [u]) 1 f n=p at *;generalize aZ (lf [v]) 1 g m=q at *;obtain⟨X,k1⟩:=p;obtain⟨Y,k2⟩:=q;dsimp only at hc1 hc2 hl1 hl2⊢;have hru:=fQ (w.alloc (.cells #[.int .i64 u.c,.int .i64 u.m.x,.int .i64 u.m.y,.int .i64 u.m.d,.int .i64 u.m.e,.int .i64 v.c,.int .i64 v.m.x,.int .i64 v.m.y,.int .i64 v.m.d,.int .i64 v.m.e] 139)) u
 rw[World.size_alloc]at hru;have HRU:=aA hru
 have HB0:=aA (aN w (.cells #[.int .i64 u.c,.int .i64 u.m.x,.int .i64 u.m.y,.int .i64 u.m.d,.int .i64 u.m.e,.int .i64 v.c,.int .i64 v.m.x,.int .i64 v.m.y,.int .i64 v.m.d,.int .i64 v.m.e] 139) (.cells #[.int .i64 u.c,.int .i64 u.m.x,.int .i64 u.m.y,.int .i64 u.m.d,.int .i64 u.m.e] 86));clear hru;have hnil:∀(W:World),gX w.heap.size W none 0 ([]:List T):=fun W=>⟨⟨Nat.le_refl _,by simp,.inl rfl⟩,.inl rfl,.inl rfl⟩
 have HN:=aA hnil;clear hnil;by_cases hk:k1=true∧k2=true
 ·obtain⟨rfl,rfl⟩:=hk;rw[if_pos ⟨rfl,rfl⟩];go_enter Tryz.func101,Tryz.ntmps101;go_wp2_with fail;refine(hc1 _ _ HRU.out (HA.out.below HB0.out)).mono ?_;rintro r w1 ⟨a1,c1,rfl,hb1,ho1⟩;obtain⟨hcc,hff⟩:=aL hb1;have HB1:=aA (aB HB0.out hb1)
  have HX1:=aA ho1.1;have HBV:=aA (HB1.out.alloc HB1.out.size (.cells #[.int .i64 v.c,.int .i64 v.m.x,.int .i64 v.m.y,.int .i64 v.m.d,.int .i64 v.m.e] 86))
  clear hb1 ho1;go_wp2_with fail;clear hcc hff;refine(hc2 _ _ (fQ w1 v) (HB.out.below HBV.out)).mono ?_;rintro r w2 ⟨a2,c2,rfl,hb2,ho2⟩;have HB2:=aA (aB HBV.out hb2)
  have HX2:=aA ((HX1.out.below (aC w1 (.cells #[.int .i64 v.c,.int .i64 v.m.x,.int .i64 v.m.y,.int .i64 v.m.d,.int .i64 v.m.e] 86))).below hb2);have HY2:=aA ho2.1
  clear hb2 ho2 HX1 HB1 HBV;go_wp2_with (go_at_call 144;refine(JF _ _ _ _ _ _ _ (lf X) (lf Y) HX2.out HY2.out).mono ?_;rintro r w3 ⟨a3,c3,rfl,hb3,ho3⟩);refine cV (results_tmp2 rfl _ _ _) rfl ?_;exact⟨a3,c3,rfl,aB HB2.out hb3,UZ ho3 HB2.out.size⟩
 ·rw[if_neg hk];have hk':(!k1|| !k2)=true:=by cases k1<;>cases k2<;>simp at hk⊢
  go_enter Tryz.func101,Tryz.ntmps101;go_wp2_with fail;refine(hc1 _ _ HRU.out (HA.out.below HB0.out)).mono ?_;rintro r w1 ⟨a1,c1,rfl,hb1,ho1⟩;obtain⟨hcc,hff⟩:=aL hb1;have HB1:=aA (aB HB0.out hb1)
  have HX1:=aA ho1.1;have HBV:=aA (HB1.out.alloc HB1.out.size (.cells #[.int .i64 v.c,.int .i64 v.m.x,.int .i64 v.m.y,.int .i64 v.m.d,.int .i64 v.m.e] 86))
  clear hb1 ho1;go_wp2_with fail;clear hcc hff;refine(hc2 _ _ (fQ w1 v) (HB.out.below HBV.out)).mono ?_;rintro r w2 ⟨a2,c2,rfl,hb2,ho2⟩;have HB2:=aA (aB HBV.out hb2)
  have HX2:=aA ((HX1.out.below (aC w1 (.cells #[.int .i64 v.c,.int .i64 v.m.x,.int .i64 v.m.y,.int .i64 v.m.d,.int .i64 v.m.e] 86))).below hb2);have HY2:=aA ho2.1
  clear hb2 ho2 HX1 HB1 HBV;cases k1
  ·go_wp2;refine cV (results_tmp2 rfl _ _ _) rfl ?_;exact⟨none,0,rfl,HB2.out,HN.out w2⟩
  ·cases k2
   ·go_wp2;refine cV (results_tmp2 rfl _ _ _) rfl ?_;exact⟨none,0,rfl,HB2.out,HN.out w2⟩
   ·exact absurd ⟨rfl,rfl⟩ hk
theorem RO (w:World) (o:Int) (a b:Option Addr) (n ca m cb:Nat) (f g:Nat→T) (ha:Rd w a n ca f) (hb:Rd w b m cb g):Calls Tryz.prog 69 #[.int .i64 o,.slice a n ca,.slice b m cb] w fun r w'=>∃v,r= .returned (.tuple #[v,.bool (dH o f n g m).2])∧Below w.heap.size w w'∧w'.ownsRow w.heap.size 86 5 v (dH o f n g m).1.length (aE (dH o f n g m).1):=by
 have HA:=aA ha;have HB:=aA hb
 have hla:(n:Int)≤140737488351232:=by have:=ha.2.1;omega
 have hlb:(m:Int)≤140737488351232:=by have:=hb.2.1;omega
 have hcall:=yR w o a n ca f b m cb g ha hb;clear ha hb;unfold dH;obtain⟨U,hU⟩:∃U,eR o n f m g=U:=⟨_,rfl⟩
 obtain⟨V,hV⟩:∃V,eS o n f m g=V:=⟨_,rfl⟩
 cases hok:eQ o n f m g
 ·rw[hU,hV,hok]at hcall;rw[if_neg (by simp)];clear hU hV hok;go_enter Tryz.func69,Tryz.ntmps69;go_wp2_with fail;refine hcall.mono ?_;rintro r w1 ⟨rfl,hb1⟩;have HB1:=aA hb1
  clear hb1 hcall;have HB2:=aA (HB1.out.alloc HB1.out.size (.cells #[.int .i64 U.c,.int .i64 U.m.x,.int .i64 U.m.y,.int .i64 U.m.d,.int .i64 U.m.e] 86))
  have HB3:=aA (HB2.out.alloc HB2.out.size (.cells #[.int .i64 V.c,.int .i64 V.m.x,.int .i64 V.m.y,.int .i64 V.m.d,.int .i64 V.m.e] 86));have hnn:=dM ((w1.alloc (.cells #[.int .i64 U.c,.int .i64 U.m.x,.int .i64 U.m.y,.int .i64 U.m.d,.int .i64 U.m.e] 86)).alloc (.cells #[.int .i64 V.c,.int .i64 V.m.x,.int .i64 V.m.y,.int .i64 V.m.d,.int .i64 V.m.e] 86)) w.heap.size HB3.out.size
  rw[World.size_alloc,World.size_alloc]at hnn;have HNN:=aA hnn
  clear hnn;go_wp2;refine cV (results_tmp2 rfl _ _ _) rfl ?_;exact⟨_,rfl,HB3.out.alloc HB3.out.size _,HNN.out⟩
 ·obtain⟨gU,gV⟩:=rV hok;have hk:=hok
  unfold eQ at hk;rw[Bool.and_eq_true]at hk;have p1:=(jM hk.1).2.1
  have p2:=(jM hk.2).2.1;rw[hU]at gU;rw[hV]at gV;rw[hU,hV,hok]at hcall;rw[if_pos rfl,hU,hV,LM gU gV p1 p2];obtain⟨l1,g1⟩:=bL p1;have gs:mH (lf [U]) 1:=fun i hi=>by
   obtain rfl:i=0:=by omega
   exact⟨gU.1,by show 0≤U.c;omega,gU.2.2⟩
  have hm:=fun(W:World) (A:Nat) (h:RL W (some ⟨A,0,none⟩) 1 [U]) (h':Rd W a n ca f)=>PM W (some ⟨A,0,none⟩) a 1 1 n ca (lf [U]) f h h' (by omega) l1 gs g1;have HGS:=aA gs
  have HG1:=aA g1;have HP2:=aA p2
  have HGV:=aA gV;clear hU hV hok hk gU gV gs g1 p1 p2;cases hX:bN (lf [U]) f n 1 with
  |none=>
   rw[hX]at hm;simp only[iN]at hm;go_enter Tryz.func69,Tryz.ntmps69;go_wp2_with fail;refine hcall.mono ?_;rintro r w1 ⟨rfl,hb1⟩;have HB1:=aA hb1
   clear hb1 hcall;have HB2:=aA (HB1.out.alloc HB1.out.size (.cells #[.int .i64 U.c,.int .i64 U.m.x,.int .i64 U.m.y,.int .i64 U.m.d,.int .i64 U.m.e] 86))
   have HB3:=aA (HB2.out.alloc HB2.out.size (.cells #[.int .i64 V.c,.int .i64 V.m.x,.int .i64 V.m.y,.int .i64 V.m.d,.int .i64 V.m.e] 86));have HB4:=aA (HB3.out.alloc HB3.out.size (.cells #[.int .i64 U.c,.int .i64 U.m.x,.int .i64 U.m.y,.int .i64 U.m.d,.int .i64 U.m.e] 86))
   have hru:=fQ ((w1.alloc (.cells #[.int .i64 U.c,.int .i64 U.m.x,.int .i64 U.m.y,.int .i64 U.m.d,.int .i64 U.m.e] 86)).alloc (.cells #[.int .i64 V.c,.int .i64 V.m.x,.int .i64 V.m.y,.int .i64 V.m.d,.int .i64 V.m.e] 86)) U;rw[World.size_alloc,World.size_alloc]at hru;have HRU:=aA hru
   clear hru;go_wp2_with fail;refine(hm _ _ HRU.out (HA.out.below HB4.out)).mono ?_;rintro r w2 ⟨v2,rfl,hb2,ho2⟩;have HB5:=aA (aB HB4.out hb2)
   clear hb2 ho2 hm;go_wp2;refine cV (results_tmp2 rfl _ _ _) rfl ?_;exact⟨_,rfl,HB5.out.alloc HB5.out.size _,dM _ w.heap.size HB5.out.size⟩
  |some X=>
   have fX:=cE HGS.out HG1.out 1 X (Nat.le_refl _) hX;have lX:=eJ 1 X hX
   have HFX:=aA fX;rw[hX]at hm;simp only[iN]at hm;have hless:=fun(W:World) (pa:Option Addr) (pc:Nat) (h:RL W pa pc X) (h':Rd W b m cb g)=>IK W pa pc X V b m cb g h lX HFX.out HGV.out h' HP2.out
   dsimp only;generalize mC X V g m=D at hless⊢;clear fX hX;go_enter Tryz.func69,Tryz.ntmps69;go_wp2_with fail;refine hcall.mono ?_;rintro r w1 ⟨rfl,hb1⟩;have HB1:=aA hb1
   clear hb1 hcall;have HB2:=aA (HB1.out.alloc HB1.out.size (.cells #[.int .i64 U.c,.int .i64 U.m.x,.int .i64 U.m.y,.int .i64 U.m.d,.int .i64 U.m.e] 86))
   have HC3:=aA (C5.box (w1.alloc (.cells #[.int .i64 U.c,.int .i64 U.m.x,.int .i64 U.m.y,.int .i64 U.m.d,.int .i64 U.m.e] 86)) 86 V);have HB3:=aA (HB2.out.alloc HB2.out.size (.cells #[.int .i64 V.c,.int .i64 V.m.x,.int .i64 V.m.y,.int .i64 V.m.d,.int .i64 V.m.e] 86))
   have HB4:=aA (HB3.out.alloc HB3.out.size (.cells #[.int .i64 U.c,.int .i64 U.m.x,.int .i64 U.m.y,.int .i64 U.m.d,.int .i64 U.m.e] 86));have hru:=fQ ((w1.alloc (.cells #[.int .i64 U.c,.int .i64 U.m.x,.int .i64 U.m.y,.int .i64 U.m.d,.int .i64 U.m.e] 86)).alloc (.cells #[.int .i64 V.c,.int .i64 V.m.x,.int .i64 V.m.y,.int .i64 V.m.d,.int .i64 V.m.e] 86)) U
   rw[World.size_alloc,World.size_alloc]at hru;have HRU:=aA hru
   clear hru;go_wp2_with fail;refine(hm _ _ HRU.out (HA.out.below HB4.out)).mono ?_;rintro r w2 ⟨v2,rfl,hb2,ho2⟩;obtain⟨a2,c2,rfl,hout⟩:=aM ho2 (by omega);have HB5:=aA (aB HB4.out hb2)
   have hC5:=(HC3.out.below (aC _ (.cells #[.int .i64 U.c,.int .i64 U.m.x,.int .i64 U.m.y,.int .i64 U.m.d,.int .i64 U.m.e] 86))).below hb2;have HX2:=aA hout.1
   rw[World.size_alloc]at hC5;obtain⟨r0,r1,r2,r3,r4⟩:=hC5;clear hb2 ho2 hm hout;go_wp2_with fail;clear r0 r1 r2 r3 r4;refine(hless _ _ _ HX2.out (HB.out.below HB5.out)).mono ?_;rintro r w3 ⟨v3,rfl,hb3,ho3⟩;have HB6:=aA (aB HB5.out hb3)
   have HO6:=aA (gD ho3 HB5.out.size);clear hb3 ho3;go_wp2;refine cV (results_tmp2 rfl _ _ _) rfl ?_;exact⟨_,rfl,HB6.out,HO6.out⟩
end Go.Proofs.YtelkehjdfcoeiaaGreat
namespace Go.Proofs.YtelkehjdfcoeiaaGreat
open Go.RowKit
set_option linter.unusedVariables false
theorem EA (φ:M→Fq) {K:List T} {a:T} {f:Nat→T} {lb:Nat} (hK:aH K) (ha:a.m.ok=true∧0≤a.c∧a.c≤100) (hg:mH f lb):∀k K',k≤lb→eO K a f k=some K'→lA φ K'=lA φ K+su (List.range k) (fun j=>lA φ (cF a (f j)))
 |0,K',_,h=>by cases h;show _=lA φ K+0;grind
 |k+1,K',hk,h=>by
  rw[eO]at h;cases hr:eO K a f k with
  |none=>rw[hr]at h;cases h
  |some K1=>
   rw[hr]at h;change fC K1 a (f k)=some K' at h;have h1:=EA φ hK ha hg k K1 (by omega) hr
   have hf1:=iY hK ha hg k K1 (by omega) hr;unfold fC at h;split at h
   ·rename_i hok;cases h;have h2:=hg k (by omega)
    have tw:pL a (f k) (a.m.sum (f k).m):=⟨ha.1,h2.1,hok.1,rfl,rfl,rfl,rfl,ha.2,h2.2⟩
    rw[IL φ hf1 (eX tw).1,h1,List.range_succ,jX];show _=_+(_+(_+0))
    grind
   ·cases h
theorem EB {K:List T} {a:T} {f:Nat→T}:∀k K',eO K a f k=some K'→∀j,j<k→(a.m.sum (f j).m).ok=true
 |0,_,_,j,hj=>by omega
 |k+1,K',h,j,hj=>by
  rw[eO]at h;cases hr:eO K a f k with
  |none=>rw[hr]at h;cases h
  |some K1=>
   rw[hr]at h;change fC K1 a (f k)=some K' at h;unfold fC at h;split at h
   ·rename_i hok;by_cases e:j=k
    ·rw[e];exact hok.1
    ·exact EB k K1 hr j (by omega)
   ·cases h
theorem vU (φ:M→Fq) {f f':Nat→T} {la lb:Nat} (hf:mH f la) (hg:mH f' lb):∀i K,i≤la→bN f f' lb i=some K→lA φ K=su (List.range i) (fun k=>su (List.range lb) (fun j=>lA φ (cF (f k) (f' j))))∧∀k,k<i→∀j,j<lb→((f k).m.sum (f' j).m).ok=true
 |0,K,_,h=>by cases h;exact⟨rfl,fun k hk=>by omega⟩
 |i+1,K,hi,h=>by
  rw[bN]at h;cases hr:bN f f' lb i with
  |none=>rw[hr]at h;cases h
  |some K1=>
   rw[hr]at h;have h1:=vU φ hf hg i K1 (by omega) hr
   refine⟨?_,fun k hk j hj=>?_⟩
   ·rw[EA φ (cE hf hg i K1 (by omega) hr) (hf i (by omega)) hg lb K (Nat.le_refl _) h,h1.1,List.range_succ,jX];show _=_+(_+0)
    grind
   ·by_cases e:k=i
    ·rw[e];exact EB lb K h j hj
    ·exact h1.2 k (by omega) j hj
theorem RY (L:List T) (f:T→Fq):su L f=su (List.range L.length) (fun i=>f (lf L i)):=by
 have e:L=(List.range L.length).map (lf L):=by refine List.ext_getElem (by simp) (fun i h1 h2=>?_);rw[List.getElem_map,List.getElem_range,iH h1]
 have:=tJ (lf L) f (List.range L.length);rw[←e]at this;exact this
theorem BF {A B P:List T} (h:kO A B=(P,true)):(∀φ,lA φ P=su A (fun a=>su B (fun b=>lA φ (cF a b))))∧∀a∈A,∀b∈B,(a.m.sum b.m).ok=true:=by
 unfold kO aZ at h;split at h
 ·rename_i hok;obtain⟨l1,g1⟩:=bL hok.1;obtain⟨l2,g2⟩:=bL hok.2;cases hm:bN (lf A) (lf B) B.length A.length with
  |none=>rw[hm]at h;simp[iN]at h
  |some K=>
   rw[hm]at h;have e:K=P:=by simpa[iN]using h
   refine⟨fun φ=>?_,fun a ha b hb=>?_⟩
   ·rw[←e,(vU φ g1 g2 _ K (Nat.le_refl _) hm).1,RY A];refine dT (fun i _=>?_);rw[RY B]
   ·obtain⟨i,hi,rfl⟩:=List.mem_iff_getElem.1 ha;obtain⟨j,hj,rfl⟩:=List.mem_iff_getElem.1 hb;have:=(vU (fun _=>0) g1 g2 _ K (Nat.le_refl _) hm).2 i hi j hj
    rwa[iH hi,iH hj]at this
 ·simp at h
def Wt (W:M→Int):Prop:=∀(a b:M) (i k:Nat),W ⟨a.x+b.x-i,a.y+b.y-k,a.d+b.d-i,a.e+b.e-k⟩≤W a+W b-i-k∧W (a.sum b)=W a+W b
theorem PX (φ:M→Fq) {a b:T} {m:M} (h:pL a b m):lA φ (cF a b)=su (List.range (fI a b+1)) (fun i=>su (List.range (gK a b+1)) (fun k=>zz (lD a b i k).c*φ (lD a b i k).m)):=by
 show lA φ (eN (eF a b (fI a b+1)) [])=_;rw[pW _ _ (nR h) dL,zV];unfold lA eF lP;rw[AV];have z:∀x:Fq,0+x=x:=by intro x;grind
 rw[z];refine dT (fun i _=>?_);rw[tJ]
theorem wK (f:Nat→Fq):∀n,(∀i,0<i→f i=0)→su (List.range (n+1)) f=f 0
 |0,_=>by show f 0+0=f 0;grind
 |n+1,h=>by
  rw[List.range_succ,jX,wK f n h];show f 0+(f (n+1)+0)=f 0
  rw[h (n+1) (by omega)];grind
theorem JY {d x:Int} (d0:0≤d) (d1:d≤15) (x0:0≤x) (x1:x≤15):zz (wy d x 0)=1:=by
 have h:=SN (d:=d) (x:=x) (i:=0) d0 d1 x0 x1 (by omega) (by omega);have e:((0:Nat):Int)=0:=rfl
 rw[e]at h;rw[h];unfold wN;rw[uX];rfl
theorem PY {W:M→Int} (hW:Wt W) (φ:M→Fq) {a b:T} {m:M} (h:pL a b m) {n:Int} (hn:W a.m+W b.m≤n) (hφ:∀m,W m<n→φ m=0):lA φ (cF a b)=zz a.c*zz b.c*φ (a.m.sum b.m):=by
 obtain⟨ax0,ax1,ay0,ay1,ad0,ad1,ae0,ae1⟩:=M.ok_iff.1 h.ok1;obtain⟨bx0,bx1,by0,by1,bd0,bd1,be0,be1⟩:=M.ok_iff.1 h.ok2;have zr:∀x:Fq,x*0=0:=by intro x;grind
 have low:∀i k:Nat,0<i+k→φ (lD a b i k).m=0:=fun i k hik=>by
  have:=(hW a.m b.m i k).1;refine hφ _ ?_;show W ⟨a.m.x+b.m.x-i,a.m.y+b.m.y-k,a.m.d+b.m.d-i,a.m.e+b.m.e-k⟩<n
  omega
 rw[PX φ h,wK _ _ (fun i hi=>nA _ _ (fun k _=>by rw[low i k (by omega),zr])),wK _ _ (fun k hk=>by rw[low 0 k (by omega),zr])];have e:(lD a b 0 0).m=a.m.sum b.m:=by
  show(⟨a.m.x+b.m.x-((0:Nat):Int),a.m.y+b.m.y-((0:Nat):Int),a.m.d+b.m.d-((0:Nat):Int),a.m.e+b.m.e-((0:Nat):Int)⟩:M)=⟨a.m.x+b.m.x,a.m.y+b.m.y,a.m.d+b.m.d,a.m.e+b.m.e⟩
  simp
 rw[e];congr 1;show zz (a.c*b.c%101*wy a.m.d b.m.x ((0:Nat):Int)%101*wy a.m.e b.m.y ((0:Nat):Int)%101)=_
 have e0:((0:Nat):Int)=0:=rfl;rw[e0,jE,lR,jE,lR,jE,lR,JY ad0 ad1 bx0 bx1,JY ae0 ae1 by0 by1]
 grind
theorem YX {A B P:List T} (h:kO A B=(P,true)) {a b:T} (ha:a∈A) (hb:b∈B):pL a b (a.m.sum b.m):=by
 obtain⟨oA,oB⟩:=BE h;have r1:=(aD oA).2.2 a ha
 have r2:=(aD oB).2.2 b hb;exact⟨r1.1,r2.1,(BF h).2 a ha b hb,rfl,rfl,rfl,rfl,⟨by omega,r1.2.2⟩,by omega,r2.2.2⟩
theorem YZ {W:M→Int} (hW:Wt W) {A B P:List T} (h:kO A B=(P,true)) {n:Int} (hn:∀a∈A,∀b∈B,W a.m+W b.m≤n) (φ:M→Fq) (hφ:∀m,W m<n→φ m=0):lA φ P=su A (fun a=>su B (fun b=>zz a.c*zz b.c*φ (a.m.sum b.m))):=by rw[(BF h).1];refine dT (fun a ha=>dT (fun b hb=>?_));exact PY hW φ (YX h ha hb) (hn a ha b hb) hφ
def dl (m:M) (x:M):Fq:=if fZ m x=true then 1 else 0
theorem XV {P:List T} (hP:aH P) {m:M} (hm:m.ok=true):lA (dl m) P=zz (aI P m):=by
 rw[mR _ hP];have e:su box (fun x=>zz (aI P x)*dl m x)=su box (fun x=>if fZ m x=true then zz (aI P m)else 0):=by
  refine dT (fun x _=>?_);unfold dl;by_cases h:fZ m x=true
  ·rw[if_pos h,if_pos h,dG.1 h];grind
  ·rw[if_neg h,if_neg h];grind
 rw[e,pB m _ box sK (zH hm)]
theorem yF {W:M→Int} (hW:Wt W) (hinj:∀a b:M,a.ok=true→b.ok=true→W a=W b→a=b) {A B P:List T} (h:kO A B=(P,true)) {a0 b0:T} (ha0:a0∈A) (hb0:b0∈B) (hA:∀a∈A,W a.m≤W a0.m) (hB:∀b∈B,W b.m≤W b0.m):(⟨a0.c*b0.c%101,a0.m.sum b0.m⟩:T)∈P∧∀t∈P,W t.m≤W (a0.m.sum b0.m):=by
 obtain⟨oA,oB⟩:=BE h;have fA:=(aD oA).2
 have fB:=(aD oB).2;have fP:=mG h
 have ra:=fA.2 a0 ha0;have rb:=fB.2 b0 hb0
 have hs:=(BF h).2 a0 ha0 b0 hb0;have hsum:=(hW a0.m b0.m 0 0).2
 have key:∀m:M,m.ok=true→W (a0.m.sum b0.m)≤W m→zz (aI P m)=zz a0.c*zz b0.c*dl m (a0.m.sum b0.m):=fun m hm hle=>by
  rw[←XV fP hm,YZ hW h (n:=W a0.m+W b0.m) (fun a ha b hb=>by have:=hA a ha;have:=hB b hb;omega) (dl m) (fun x hx=>by
   unfold dl;rw[if_neg];intro e;rw[dG.1 e]at hle
   omega)]
  have zr:∀x:Fq,x*0=0:=by intro x;grind
  have off:∀a∈A,∀b∈B,(a.m≠a0.m∨b.m≠b0.m)→dl m (a.m.sum b.m)=0:=fun a ha b hb hne=>by
   unfold dl;rw[if_neg];intro e;rw[dG.1 e,(hW a.m b.m 0 0).2]at hle;have h1:=hA a ha
   have h2:=hB b hb;rcases hne with hne|hne
   ·exact hne (hinj _ _ (fA.2 a ha).1 ra.1 (by omega))
   ·exact hne (hinj _ _ (fB.2 b hb).1 rb.1 (by omega))
  rw[wJ fA ha0 (fun a ha hne=>nA _ _ (fun b hb=>by rw[off a ha b hb (.inl hne),zr])),wJ fB hb0 (fun b hb hne=>by rw[off a0 ha0 b hb (.inr hne),zr])]
 have c0:aI P (a0.m.sum b0.m)=a0.c*b0.c%101:=by
  have h1:=key _ hs (Int.le_refl _);have e1:dl (a0.m.sum b0.m) (a0.m.sum b0.m)=1:=by unfold dl;rw[if_pos (dG.2 rfl)]
  rw[e1]at h1;have h2:zz (aI P (a0.m.sum b0.m))=zz (a0.c*b0.c%101):=by rw[h1,jE,lR];grind
  exact SM (bD fP _) ⟨by omega,by omega⟩ h2
 have cne:a0.c*b0.c%101≠0:=by
  have:=IC (a:=a0.c) (b:=b0.c) (by omega) (by omega) (by omega) (by omega)
  rwa[gY (by omega) ra.2.2 (by omega) rb.2.2]at this
 have mem:∀X:List T,∀m,aI X m≠0→∃s∈X,s.m=m∧s.c=aI X m:=fun X m=>by
  induction X with
  |nil=>intro h;exact absurd rfl h
  |cons s r ih=>
   intro h;rw[aI]at h⊢;by_cases e:fZ s.m m=true
   ·exact⟨s,List.mem_cons_self ..,dG.1 e,by rw[if_pos e]⟩
   ·rw[if_neg e]at h⊢;obtain⟨x,hx,he⟩:=ih h;exact⟨x,List.mem_cons_of_mem _ hx,he⟩
 refine⟨?_,fun t ht=>?_⟩
 ·obtain⟨s,hs1,hs2,hs3⟩:=mem P (a0.m.sum b0.m) (by rw[c0];exact cne);have:s=⟨a0.c*b0.c%101,a0.m.sum b0.m⟩:=by cases s;simp only at hs2 hs3;rw[hs2,hs3,c0]
  rw[←this];exact hs1
 ·have rt:=fP.2 t ht;by_cases hle:W t.m≤W (a0.m.sum b0.m)
  ·exact hle
  ·exfalso;have h1:=key t.m rt.1 (by omega)
   have e1:dl t.m (a0.m.sum b0.m)=0:=by unfold dl;rw[if_neg];intro e;rw[dG.1 e]at hle;exact hle (Int.le_refl _)
   rw[e1]at h1;have ht2:aI P t.m=t.c:=by
    have hp:∀X:List T,aH X→t∈X→aI X t.m=t.c:=fun X hX hx=>by
     induction X with
     |nil=>cases hx
     |cons s r ih=>
      rw[aI];rcases List.mem_cons.1 hx with rfl|hx'
      ·rw[if_pos (dG.2 rfl)]
      ·have h1:=(List.pairwise_cons.1 hX.1).1 t hx';rw[if_neg (fun e=>by rw[dG.1 e]at h1;omega)];exact ih hX.tail hx'
    exact hp P fP ht
   rw[ht2]at h1;exact WT rt.2.1 rt.2.2 (by rw[h1];grind)
end Go.Proofs.YtelkehjdfcoeiaaGreat
