/-
  What an operator does to a form of the times: the model.
-/
import Derived.Test.YtkcmamepoplcdaaGreatDoorVbi
set_option maxHeartbeats 8000000
set_option maxRecDepth 100000
namespace Go.Proofs.YtkcmamepoplcdaaGreatDoor
open Go.RowKit
set_option linter.unusedVariables false
def TD (a b:T):Int:=a.c*b.c%101*dD b.m.x a.m.d%101*dD b.m.y a.m.e%101
theorem kI (n k:Int):0≤dD n k∧dD n k≤100:=by
 by_cases h:0≤n∧n≤60∧0≤k∧k≤60
 ·rw[jG h.1 h.2.1 h.2.2.1 h.2.2.2];exact qH n k.toNat
 ·rw[pL h];omega
theorem IL {a b:T} (ha:0≤a.c∧a.c≤100) (hb:0≤b.c∧b.c≤100):(wA a b).c=TD a b:=by
 have h1:=kI b.m.x a.m.d;have h2:=kI b.m.y a.m.e
 show iX (iX a.c b.c) (iX (dD b.m.x a.m.d) (dD b.m.y a.m.e))=_;rw[AZ (gJ _ _) h1 h2,fU (gJ _ _).1 (gJ _ _).2 h2.1 h2.2,fU (gJ _ _).1 (gJ _ _).2 h1.1 h1.2,fU ha.1 ha.2 hb.1 hb.2];rfl
theorem IM {a b:T} (ha:a.m.ok=true) (hb:b.m.ok=true) (h:b.m.x<a.m.d∨b.m.y<a.m.e):TD a b=0:=by
 obtain⟨p1,p2,p3,p4,p5,p6,p7,p8⟩:=M.ok_iff.1 ha;obtain⟨q1,q2,q3,q4,q5,q6,q7,q8⟩:=M.ok_iff.1 hb;unfold TD;rcases h with h|h
 ·rw[yT q1 (by omega) (by omega) h];simp
 ·rw[yT q3 (by omega) (by omega) h];simp
theorem QW {a b:T} (ha:a.m.ok=true∧1≤a.c∧a.c≤100) (hb:b.m.ok=true∧1≤b.c∧b.c≤100) (h:¬(b.m.x<a.m.d∨b.m.y<a.m.e)):TD a b≠0:=by
 obtain⟨p1,p2,p3,p4,p5,p6,p7,p8⟩:=M.ok_iff.1 ha.1;obtain⟨q1,q2,q3,q4,q5,q6,q7,q8⟩:=M.ok_iff.1 hb.1;rw[←IL (by omega) (by omega)];have h1:=kI b.m.x a.m.d
 have h2:=kI b.m.y a.m.e;have n1:dD b.m.x a.m.d≠0:=yS (by omega) p5 (by omega)
 have n2:dD b.m.y a.m.e≠0:=yS (by omega) p7 (by omega);exact wB (gJ _ _) (gJ _ _) (wB (by omega) (by omega) (by omega) (by omega)) (wB h1 h2 n1 n2)
def xS (L:List DT):List T:=cF (L.map (·.1)) []
theorem IOz (L:List DT) (x:DT):xS (L++[x])=iH x.1.c x.1.m (xS L):=by unfold xS;rw[List.map_append,List.map_cons,List.map_nil,zV]
theorem EP {L:List DT} (h:eP L=true):bC (xS L):=(fF _ [] (BW h) eC).1
theorem SQ (w:World) (a b:Option Addr) (la ca lb cb:Nat) (f g:Nat→T) (ha:Rd w a la ca f) (hb:Rd w b lb cb g):Calls Tryz.prog 72 #[.slice a la ca,.slice b lb cb] w fun r w'=>∃v,r= .returned (.tuple #[v,.bool (fS f la g lb).2])∧Below w.heap.size w w'∧w'.ownsRow w.heap.size 79 5 v (fS f la g lb).1.length (aG (fS f la g lb).1):=by
 have HA:=aA ha;have HB:=aA hb
 have hla:(la:Int)≤140737488351232:=by have:=ha.2.1;omega
 have hlb:(lb:Int)≤140737488351232:=by have:=hb.2.1;omega
 clear ha hb;cases hpa:aK la f
 ·have e1:fS f la g lb=([],false):=by simp[fS,hpa]
  rw[e1];go_enter Tryz.func72,Tryz.ntmps72;go_wp2_with (go_at_call 29;refine(bD _ _ _ _ f HA.out).mono ?_;rw[hpa];rintro r w1 ⟨rfl,hb1⟩;have HB1:=aA hb1;clear hb1);refine aY (results_tmp2 rfl _ _ _) rfl ?_;exact⟨_,rfl,HB1.out.alloc HB1.out.size _,aS w1 w.heap.size HB1.out.size⟩
 ·cases hpf:cA lb g
  ·have e1:fS f la g lb=([],false):=by simp[fS,hpf]
   rw[e1];go_enter Tryz.func72,Tryz.ntmps72
   go_wp2_with (first
    |(go_at_call 29;refine(bD _ _ _ _ f HA.out).mono ?_;rw[hpa];rintro r w1 ⟨rfl,hb1⟩;have HB1:=aA hb1;clear hb1)
    |(go_at_call 103;refine(zQ _ _ _ _ g (HB.out.below HB1.out)).mono ?_;rw[hpf];rintro r w2 ⟨rfl,hb2⟩;have HB2:=aA (aC HB1.out hb2);clear hb2))
   refine aY (results_tmp2 rfl _ _ _) rfl ?_;exact⟨_,rfl,HB2.out.alloc HB2.out.size _,aS w2 w.heap.size HB2.out.size⟩
  ·have e2:fS f la g lb=EQ f la g lb:=by simp[fS,EQ,hpa,hpf]
   rw[e2];clear e2;have hpg:aK lb g=true:=by simp only[cA,Bool.and_eq_true]at hpf;exact hpf.1
   have HGF:=aA (cO hpa).2;have HGG:=aA (cO hpg).2
   clear hpg;go_enter Tryz.func72,Tryz.ntmps72
   go_wp2_with (first
    |(go_at_call 29;refine(bD _ _ _ _ f HA.out).mono ?_;rw[hpa];rintro r w1 ⟨rfl,hb1⟩;have HB1:=aA hb1;clear hb1)
    |(go_at_call 103;refine(zQ _ _ _ _ g (HB.out.below HB1.out)).mono ?_;rw[hpf];rintro r w2 ⟨rfl,hb2⟩;have HB2:=aA (aC HB1.out hb2);clear hb2))
   clear hpa hpf;have HO3:=aA (aS w2 w.heap.size HB2.out.size)
   have HB3:=aA (aC HB2.out (aF w2 (.cells #[] 79)));generalize w2.alloc (.cells #[] 79)=w3 at *;generalize w2.heap.size=n2 at *;go_loopw [6,7] (fun v ii wr=>∃i:Nat,i≤la∧ii= .int .i64 (i:Int)∧eP (bH f g lb i)=true∧wr.ownsRow w.heap.size 79 5 v (xS (bH f g lb i)).length (aG (xS (bH f g lb i)))∧Below w.heap.size w wr) (fun _ ii _=>la-(intOf ii).toNat);case atStart=>exact⟨0,iK _,rfl,rfl,HO3.out,HB3.out⟩
   case round=>
    obtain⟨i,hi,rfl,hok,hown,hbl⟩:=hrel;by_cases hlt:i<la
    ·have hil:(i:Int)<(la:Int):=by omega
     have HOWN:=aA hown;have HBL:=aA hbl
     have hfi:=HGF.out i hlt;clear hown hbl;go_wp2;go_loopw [6,8] (fun v kk wr=>∃k:Nat,k≤lb∧kk= .int .i64 (k:Int)∧eP (bH f g lb i++bR (f i) g k)=true∧wr.ownsRow w.heap.size 79 5 v (xS (bH f g lb i++bR (f i) g k)).length (aG (xS (bH f g lb i++bR (f i) g k)))∧Below w.heap.size w wr) (fun _ kk _=>lb-(intOf kk).toNat);case atStart=>exact⟨0,iK _,rfl,by rw[bR,List.append_nil];exact hok,by rw[bR,List.append_nil];exact HOWN.out,HBL.out⟩
     case round=>
      obtain⟨k,hk,rfl,hok',hown',hbl'⟩:=hrel;by_cases hlt2:k<lb
      ·have hkl:(k:Int)<(lb:Int):=by omega
       have hri:=HA.out.below hbl';have hrk:=HB.out.below hbl'
       rcases hri.2.2 with h0|⟨pb,off,hpe,hblt,hcl⟩
       ·omega
       rcases hrk.2.2 with h0|⟨pb2,off2,hpe2,hblt2,hcl2⟩
       ·omega
       obtain⟨g0,g1,g2,g3,g4⟩:=hcl i hlt;obtain⟨j0,j1,j2,j3,j4⟩:=hcl2 k hlt2;subst hpe hpe2;have hgk:=HGG.out k hlt2
       have HC1:=aA (And.intro g0 j0);have HOW:=aA hown'
       have HBL':=aA hbl';have hws:w.heap.size≤wr.heap.size:=hbl'.size
       have hKs:=pJ hok';have hKf:=EP hok'
       clear hcl hcl2 hri hrk hown' hbl' g0 j0;go_wp2_with fail;refine Code.wp_mono (Q:=fun e b0 u=>match e with|Exit.normal=>(∃h1 h2:Nat,b0={tmps:=#[Value.slice (some ⟨pb,off,none⟩) la ca,Value.slice (some ⟨pb2,off2,none⟩) lb cb,undef,undef,u4,u5,u6,Value.int IntKind.i64 (i:Int),Value.int IntKind.i64 (k:Int),Value.pointer (some ⟨h1,0,none⟩),Value.pointer (some ⟨h2,0,none⟩),u11,u12,Value.slice (some ⟨pb,off,none⟩) la ca,Value.bool true,Value.bool false,Value.bool false,Value.slice (some ⟨pb2,off2,none⟩) lb cb,Value.bool true,Value.bool false,Value.bool false,undef,Value.slice (some ⟨n2,0,none⟩) 0 0,Value.int IntKind.i64 (i:Int),Value.slice (some ⟨pb,off,none⟩) la ca,Value.int IntKind.i64 (la:Int),Value.bool true,u27,u28,Value.int IntKind.i64 (k:Int),Value.slice (some ⟨pb2,off2,none⟩) lb cb,Value.int IntKind.i64 (lb:Int),Value.bool true,u33,u34,Value.slice (some ⟨pb,off,none⟩) la ca,Value.int IntKind.i64 (i:Int),Value.pointer (some ⟨pb,off+i*5,none⟩),Value.pointer (some ⟨pb,off+i*5+1,none⟩),Value.agg #[Value.int IntKind.i64 (f i).m.x,Value.int IntKind.i64 (f i).m.y,Value.int IntKind.i64 (f i).m.d,Value.int IntKind.i64 (f i).m.e],Value.slice (some ⟨pb2,off2,none⟩) lb cb,Value.int IntKind.i64 (k:Int),Value.pointer (some ⟨pb2,off2+k*5,none⟩),Value.pointer (some ⟨pb2,off2+k*5+1,none⟩),Value.agg #[Value.int IntKind.i64 (g k).m.x,Value.int IntKind.i64 (g k).m.y,Value.int IntKind.i64 (g k).m.d,Value.int IntKind.i64 (g k).m.e],u45,u46,u47,u48,u49,u50,u51,u52,u53,u54,u55,u56,u57,u58,u59,u60,u61,u62,u63,u64,u65,u66,u67,u68,u69,u70,u71,u72,u73,u74,u75,u76,u77,u78,u79,u80,u81,u82,u83,u84,u85,u86,u87,u88,u89,u90,u91,u92,u93,u94,u95,u96,u97,u98,u99,undef],defers:=[]}∧M4 u h1 (f i).m.x (f i).m.y (f i).m.d (f i).m.e∧M4 u h2 (g k).m.x (g k).m.y (g k).m.d (g k).m.e∧Below wr.heap.size wr u)|_=>False) ?_ ?_;rotate_left
       ·go_region_with (fail)
        all_goals
         refine⟨_,_,rfl,⟨by go_simp,by go_simp,by go_simp,by go_simp⟩,⟨by go_simp,by go_simp,by go_simp,by go_simp⟩,?_⟩
         first
          |exact(dN wr _ _).drew
          |exact dN wr.drew _ _
       ·intro e b0 ua hh;cases e with
        |normal=>
         obtain⟨h1,h2,rfl,m1,m2,hbu⟩:=hh;have hOU:=aR HOW.out hbu
         have hBU:=aC HBL'.out hbu;have x1:=(hbu.cell (p:=⟨pb,off+i*5,none⟩) hblt).trans HC1.out.1
         have x2:=(hbu.cell (p:=⟨pb2,off2+k*5,none⟩) hblt2).trans HC1.out.2;have HOU:=aA hOU
         have HBU:=aA hBU;have lp1:pb<ua.heap.size:=eH hblt hbu.size
         have lp2:pb2<ua.heap.size:=eH hblt2 hbu.size;have lh1:=m1.lt
         have lh2:=m2.lt;have HM1:=aA m1
         have HM2:=aA m2;have ne:=dX.there ua
         have s1:∀u:dX ua,u.1.cell? ⟨pb,off+i*5,none⟩=some (.int .i64 (f i).c):=fun u=>(u.cell lp1).trans x1;have s2:∀u:dX ua,u.1.cell? ⟨pb2,off2+k*5,none⟩=some (.int .i64 (g k).c):=fun u=>(u.cell lp2).trans x2
         have s3:∀u:dX ua,u.1.cell? ⟨h1,2,none⟩=some (.int .i64 (f i).m.d):=fun u=>(u.cell lh1).trans m1.2.2.1;have s4:∀u:dX ua,u.1.cell? ⟨h1,3,none⟩=some (.int .i64 (f i).m.e):=fun u=>(u.cell lh1).trans m1.2.2.2
         have s5:∀u:dX ua,u.1.cell? ⟨h2,0,none⟩=some (.int .i64 (g k).m.x):=fun u=>(u.cell lh2).trans m2.1;have s6:∀u:dX ua,u.1.cell? ⟨h2,1,none⟩=some (.int .i64 (g k).m.y):=fun u=>(u.cell lh2).trans m2.2.1
         obtain⟨p1,p2,p3,p4,p5,p6,p7,p8⟩:=M.ok_iff.1 hfi.1;obtain⟨q1,q2,q3,q4,q5,q6,q7,q8⟩:=M.ok_iff.1 hgk.1;have f1:=kI (g k).m.x (f i).m.d
         have f2:=kI (g k).m.y (f i).m.e;obtain⟨F1,eF1⟩:∃F1,F1=dD (g k).m.x (f i).m.d:=⟨_,rfl⟩
         obtain⟨F2,eF2⟩:∃F2,F2=dD (g k).m.y (f i).m.e:=⟨_,rfl⟩
         obtain⟨c1,ec1⟩:∃c1,c1=(f i).c*(g k).c%101:=⟨_,rfl⟩
         obtain⟨c2,ec2⟩:∃c2,c2=c1*F1%101:=⟨_,rfl⟩
         obtain⟨c3,ec3⟩:∃c3,c3=c2*F2%101:=⟨_,rfl⟩
         have HC3:Hid (c3=TD (f i) (g k)):=by show c3=_;rw[ec3,ec2,ec1,eF1,eF2];rfl
         rw[←eF1]at f1;rw[←eF2]at f2;have b1:=gM (show 0≤(f i).c by omega) hfi.2.2 (show 0≤(g k).c by omega) hgk.2.2
         have b2:=gM (show 0≤c1 by omega) (show c1≤100 by omega) f1.1 f1.2;have b3:=gM (show 0≤c2 by omega) (show c2≤100 by omega) f2.1 f2.2
         have v1:IntKind.i64.wrap ((f i).c*(g k).c)=(f i).c*(g k).c:=by rw[IntKind.wrap_i64];omega
         have t1:((f i).c*(g k).c).tmod 101=c1:=(Int.tmod_eq_emod_of_nonneg b1.1).trans ec1.symm;have v2:IntKind.i64.wrap (c1*F1)=c1*F1:=by rw[IntKind.wrap_i64];omega
         have t2:(c1*F1).tmod 101=c2:=(Int.tmod_eq_emod_of_nonneg b2.1).trans ec2.symm;have v3:IntKind.i64.wrap (c2*F2)=c2*F2:=by rw[IntKind.wrap_i64];omega
         have t3:(c2*F2).tmod 101=c3:=(Int.tmod_eq_emod_of_nonneg b3.1).trans ec3.symm;have hF1:∀u:World,Calls Tryz.prog 104 #[.int .i64 (g k).m.x,.int .i64 (f i).m.d] u fun e w'=>e= .returned (.int .i64 F1)∧w'=u:=fun u=>by rw[eF1];exact CO _ _ u
         have hF2:∀u:World,Calls Tryz.prog 104 #[.int .i64 (g k).m.y,.int .i64 (f i).m.e] u fun e w'=>e= .returned (.int .i64 F2)∧w'=u:=fun u=>by rw[eF2];exact CO _ _ u
         have k1:0≤c3:=by omega
         have k2:c3≤100:=by omega
         clear b1 b2 b3 f1 f2 ec1 ec2 ec3 eF1 eF2 x1 x2 hOU hBU m1 m2 hbu lh1 lh2 lp1 lp2 HC1 g1 g2 g3 g4 j1 j2 j3 j4;go_wp2_with fail;refine aU (by kernel_rfl) (by kernel_rfl) ?_;repeat(go_big_quiet_step (first|(go_at_call_of 104 (Value.int IntKind.i64 (g k).m.x);exact gI (hF1 _))|(go_at_call 104;exact gI (hF2 _))))
         refine wpQuiet_nil ?_;rintro W1 ⟨u,hu⟩;have hb1:Below ua.heap.size ua W1:=by rw[hu];exact u.2
         obtain⟨r0,r1,r2,r3⟩:=HM1.out.below hb1;obtain⟨z0,z1,z2,z3⟩:=HM2.out.below hb1;have HO1:=aA (aR HOU.out hb1)
         have HB1:=aA (aC HBU.out hb1);clear s1 s2 s3 s4 s5 s6 hu u ne hb1 v1 v2 v3 t1 t2 t3 hF1 hF2 HOU HBU HM1 HM2;have v1:IntKind.i64.wrap ((g k).m.x-(f i).m.d)=(g k).m.x-(f i).m.d:=by rw[IntKind.wrap_i64];omega
         have v2:IntKind.i64.wrap ((g k).m.x-(f i).m.d+(f i).m.x)=(g k).m.x-(f i).m.d+(f i).m.x:=by rw[IntKind.wrap_i64];omega
         have v3:IntKind.i64.wrap ((g k).m.y-(f i).m.e)=(g k).m.y-(f i).m.e:=by rw[IntKind.wrap_i64];omega
         have v4:IntKind.i64.wrap ((g k).m.y-(f i).m.e+(f i).m.y)=(g k).m.y-(f i).m.e+(f i).m.y:=by rw[IntKind.wrap_i64];omega
         have hBx:=aF W1 (.cells #[.int .i64 ((g k).m.x-(f i).m.d+(f i).m.x),.int .i64 ((g k).m.y-(f i).m.e+(f i).m.y),.int .i64 0,.int .i64 0] 77);have HOx:=aA (aR HO1.out hBx)
         have HBx:=aA (aC HB1.out hBx);by_cases hsk:(g k).m.x<(f i).m.d∨(g k).m.y<(f i).m.e
         ·have hc0:c3=0:=by rw[HC3.out];exact IM hfi.1 hgk.1 hsk
          have e2:bR (f i) g (k+1)=bR (f i) g k:=by rw[bR,PR,if_pos hsk,List.append_nil]
          have HE:=aA e2;subst hc0;have hput:=wH _ w.heap.size u6 _ 0 ((g k).m.x-(f i).m.d+(f i).m.x) ((g k).m.y-(f i).m.e+(f i).m.y) 0 0 HOx.out HBx.out.size (show(xS (bH f g lb i++bR (f i) g k)).length≤1000 by have:(xS (bH f g lb i++bR (f i) g k)).length≤256:=hKs;omega) (dY hKf) (by omega) (by omega)
          have ep:iH 0 ⟨((g k).m.x-(f i).m.d+(f i).m.x),((g k).m.y-(f i).m.e+(f i).m.y),0,0⟩ (xS (bH f g lb i++bR (f i) g k))=xS (bH f g lb i++bR (f i) g k):=by simp[iH]
          rw[ep]at hput;clear e2 ep hBx hKs hKf hsk;go_wp2_with (go_at_call 105;refine hput.mono ?_;rintro r w7 ⟨v7,rfl,hb7,ho7⟩;have HB7:=aA (aC HBx.out hb7);have HO7:=aA ho7;clear hb7 ho7);go_roundw;case rel=>exact⟨k+1,by omega,by go_num,by rw[HE.out];exact hok',by rw[HE.out];exact HO7.out,HB7.out⟩
          case measure=>simp[intOf];omega
         ·have hc0:c3≠0:=by rw[HC3.out];exact QW hfi hgk hsk
          have hcb:(c3 !=0)=true:=by simp[hc0]
          have e2:bR (f i) g (k+1)=bR (f i) g k++[NC (f i) (g k)]:=by rw[bR,PR,if_neg hsk]
          have HE:Hid (bH f g lb i++bR (f i) g (k+1)=bH f g lb i++bR (f i) g k++[NC (f i) (g k)]):=by show _=_;rw[e2,List.append_assoc]
          have hcd:(wA (f i) (g k)).c=c3:=(IL (by omega) (by omega)).trans HC3.out.symm;have hm:=gT ((g k).m.x-(f i).m.d+(f i).m.x) ((g k).m.y-(f i).m.e+(f i).m.y) 0 0
          cases hxo:M.ok ⟨((g k).m.x-(f i).m.d+(f i).m.x),((g k).m.y-(f i).m.e+(f i).m.y),0,0⟩
          ·have hbad:eP (bH f g lb i++bR (f i) g (k+1))=false:=by
            rw[HE.out,gG,hok'];show eP [NC (f i) (g k)]=false
            unfold eP;simp only[List.all_cons,List.all_nil,Bool.and_true];exact hxo
           have eV:EQ f la g lb=([],false):=if_neg (by rw[tU (vH f g lb la hlt (show k+1≤lb from hlt2)) hbad];simp);rw[hxo]at hm;clear hbad e2 hcd hKs hKf hsk hBx hc0;go_wp2_with (go_at_call 60;refine(hm _).mono ?_;rintro r w6 ⟨rfl,hb6⟩;have HB6:=aA (aC HBx.out hb6);clear hb6);refine aY (results_tmp2 rfl _ _ _) rfl ?_;rw[eV];exact⟨_,rfl,HB6.out.alloc HB6.out.size _,aS w6 w.heap.size HB6.out.size⟩
          ·have hgood:Hid (eP (bH f g lb i++bR (f i) g (k+1))=true):=by
            show _=_;rw[HE.out,gG,hok'];show eP [NC (f i) (g k)]=true
            unfold eP;simp only[List.all_cons,List.all_nil,Bool.and_true];exact hxo
           have HK:Hid (xS (bH f g lb i++bR (f i) g (k+1))=iH c3 ⟨((g k).m.x-(f i).m.d+(f i).m.x),((g k).m.y-(f i).m.e+(f i).m.y),0,0⟩ (xS (bH f g lb i++bR (f i) g k))):=by show _=_;rw[HE.out,IOz,←hcd];rfl
           rw[hxo]at hm;obtain⟨y0,y1,y2,y3⟩:=M4.box W1 77 ((g k).m.x-(f i).m.d+(f i).m.x) ((g k).m.y-(f i).m.e+(f i).m.y) 0 0;have HXB:=aA (M4.box W1 77 ((g k).m.x-(f i).m.d+(f i).m.x) ((g k).m.y-(f i).m.e+(f i).m.y) 0 0)
           have HL:Hid ((xS (bH f g lb i++bR (f i) g k)).length≤256):=hKs;have HKF:=aA hKf
           clear e2 hcd hKs hKf hsk hBx hc0 y0 y1 y2 y3
           go_wp2_with (first
            |(go_at_call 60;refine(hm _).mono ?_;rintro r w6 ⟨rfl,hb6⟩;obtain⟨y0,y1,y2,y3⟩:=HXB.out.below hb6;have HO6:=aA (aR HOx.out hb6);have HB6:=aA (aC HBx.out hb6);clear hb6)
            |(go_at_call 105;refine(wH w6 w.heap.size u6 _ c3 ((g k).m.x-(f i).m.d+(f i).m.x) ((g k).m.y-(f i).m.e+(f i).m.y) 0 0 HO6.out HB6.out.size (iS HL.out (by decide)) (dY HKF.out) k1 k2).mono ?_;rintro r w7 ⟨v7,rfl,hb7,ho7⟩;have HB7:=aA (aC HB6.out hb7);have HO7:=aA ho7;clear hb7 ho7))
           go_roundw;case rel=>exact⟨k+1,by omega,by go_num,hgood.out,by rw[HK.out];exact HO7.out,HB7.out⟩
           case measure=>simp[intOf];omega
        |_=>exact hh.elim
      ·obtain rfl:k=lb:=by omega
       have HOK:Hid (eP (bH f g k (i+1))=true):=hok';have HOWK:Hid (wr.ownsRow w.heap.size 79 5 _ (xS (bH f g k (i+1))).length (aG (xS (bH f g k (i+1))))):=hown'
       have HBLK:=aA hbl';clear hok' hown' hbl';go_wp2;go_roundw;case rel=>exact⟨i+1,by omega,by go_num,HOK.out,HOWK.out,HBLK.out⟩
       case measure=>simp[intOf];omega
    ·obtain rfl:i=la:=by omega
     have eV:EQ f i g lb=(xS (bH f g lb i),true):=if_pos hok;go_wp2;refine aY (results_tmp2 rfl _ _ _) rfl ?_;rw[eV];exact⟨_,rfl,hbl,hown⟩
end Go.Proofs.YtkcmamepoplcdaaGreatDoor
