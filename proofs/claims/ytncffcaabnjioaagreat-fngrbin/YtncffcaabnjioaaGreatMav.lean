/-
  The greatest term of an operator in an order: the program's function.
-/
import Derived.Test.YtncffcaabnjioaaGreatMau
set_option maxHeartbeats 8000000
set_option maxRecDepth 100000
namespace Go.Proofs.YtncffcaabnjioaaGreat
open Go.RowKit
set_option linter.unusedVariables false
theorem sW {a b:Int}:0<c3 a b↔b<a:=by
 unfold c3;constructor
 ·intro h;split at h
  ·omega
  ·split at h<;>omega
 ·intro h;rw[if_neg (by omega),if_pos h];decide
def C5 (w:World) (b:Nat) (t:T):Prop:=
 w.cell? ⟨b,0,none⟩=some (.int .i64 t.c)∧w.cell? ⟨b,1,none⟩=some (.int .i64 t.m.x)∧w.cell? ⟨b,2,none⟩=some (.int .i64 t.m.y)∧w.cell? ⟨b,3,none⟩=some (.int .i64 t.m.d)∧w.cell? ⟨b,4,none⟩=some (.int .i64 t.m.e)
theorem C5.lt {w:World} {b:Nat} {t:T} (h:C5 w b t):b<w.heap.size:=cU w _ h.1
theorem C5.below {w w':World} {b:Nat} {t:T} (h:C5 w b t) (hb:Below w.heap.size w w'):C5 w' b t:=RB hb h
theorem C5.box (w:World) (y:TypeId) (t:T):C5 (w.alloc (.cells #[.int .i64 t.c,.int .i64 t.m.x,.int .i64 t.m.y,.int .i64 t.m.d,.int .i64 t.m.e] y)) w.heap.size t:=
 ⟨by rw[World.cell?_alloc_at _ _ _ _ rfl];rfl,by rw[World.cell?_alloc_at _ _ _ _ rfl];rfl,by rw[World.cell?_alloc_at _ _ _ _ rfl];rfl,by rw[World.cell?_alloc_at _ _ _ _ rfl];rfl,by rw[World.cell?_alloc_at _ _ _ _ rfl];rfl⟩
theorem pV {w:World} {B b o:Nat} {v0 v1 v2 v3 v4:Value} (h:b≠B):(((((w.setCell ⟨B,0,none⟩ v0).setCell ⟨B,1,none⟩ v1).setCell ⟨B,2,none⟩ v2).setCell ⟨B,3,none⟩ v3).setCell ⟨B,4,none⟩ v4).cell? ⟨b,o,none⟩=w.cell? ⟨b,o,none⟩:=by refine lH ?_;rw[Below.heap_setCell _ _ _ _ h,Below.heap_setCell _ _ _ _ h,Below.heap_setCell _ _ _ _ h,Below.heap_setCell _ _ _ _ h,Below.heap_setCell _ _ _ _ h]
theorem ZE {w:World} {B b o:Nat} {v0 v1 v2 v3 v4:Value} (h:b≠B):(((((w.setCell ⟨B,0,none⟩ v0).setCell ⟨B,1,none⟩ v1).setCell ⟨B,2,none⟩ v2).setCell ⟨B,3,none⟩ v3).setCell ⟨B,4,none⟩ v4).frozen? ⟨b,o,none⟩=w.frozen? ⟨b,o,none⟩:=by refine World.frozen?_of_block ?_;rw[Below.heap_setCell _ _ _ _ h,Below.heap_setCell _ _ _ _ h,Below.heap_setCell _ _ _ _ h,Below.heap_setCell _ _ _ _ h,Below.heap_setCell _ _ _ _ h]
def bL (w:World) (b:Nat) (t:T):Prop:=C5 w b t∧∀j,w.frozen? ⟨b,j,none⟩=false
theorem bL.below {w w':World} {b:Nat} {t:T} (h:bL w b t) (hb:Below w.heap.size w w'):bL w' b t:=⟨h.1.below hb,fun j=>(hb.frozen (p:=⟨b,j,none⟩) h.1.lt).trans (h.2 j)⟩
theorem bL.box (w:World) (y:TypeId) (t:T):bL (w.alloc (.cells #[.int .i64 t.c,.int .i64 t.m.x,.int .i64 t.m.y,.int .i64 t.m.d,.int .i64 t.m.e] y)) w.heap.size t:=
 ⟨C5.box w y t,fun j=>by rw[World.frozen?_alloc_at _ _ _ _ rfl]⟩
theorem bL.far {w:World} {B b:Nat} {t:T} {v0 v1 v2 v3 v4:Value} (m:bL w b t) (h:b≠B):bL (((((w.setCell ⟨B,0,none⟩ v0).setCell ⟨B,1,none⟩ v1).setCell ⟨B,2,none⟩ v2).setCell ⟨B,3,none⟩ v3).setCell ⟨B,4,none⟩ v4) b t:=
 ⟨⟨(pV h).trans m.1.1,(pV h).trans m.1.2.1,(pV h).trans m.1.2.2.1,(pV h).trans m.1.2.2.2.1,(pV h).trans m.1.2.2.2.2⟩,fun j=>(ZE h).trans (m.2 j)⟩
def bG:T:=⟨0,⟨0,0,0,0⟩⟩
theorem LX (w:World) (a:Option Addr) (n cap:Nat) (f:Nat→T) (h:Rd w a n cap f) (hp:aN n f=true) (hpos:0<n):Calls Tryz.prog 24 #[.int .i64 1,.slice a n cap] w fun r w'=>r= .returned (.tuple #[.agg #[.int .i64 (bO 1 n f).c,.int .i64 (bO 1 n f).m.x,.int .i64 (bO 1 n f).m.y,.int .i64 (bO 1 n f).m.d,.int .i64 (bO 1 n f).m.e],.bool (bH 1 n f)])∧Below w.heap.size w w':=by
 have HR:=aA h;obtain⟨h1,h2,h3⟩:=h;have hn:(n:Int)≤140737488351232:=by omega
 have e1:bH 1 n f=true:=by simp[bH,hp,hpos]
 rw[eF e1,e1];clear e1;have hne:((n:Int)==0)=false:=by simp;omega
 have HM:=aA (sJ hp);obtain⟨t,ht⟩:∃t,t=f (aX 1 f n):=⟨_,rfl⟩
 rw[←ht];have HT:=aA ht
 obtain⟨b,off,rfl,hblt,hcl⟩:=h3.resolve_left (by omega);have HCL:=aA hcl
 clear ht h3 hcl;have hn1:(0:Int)<(n:Int):=by omega
 have hn2:(1:Int)≤(n:Int):=by omega
 have hn3:(1:Int)≤(cap:Int):=by omega
 have hn4:(n:Int)≤(cap:Int):=by omega
 have hn5:1≤n:=by omega
 have hn6:1≤cap:=by omega
 by_cases hc1:cap=1
 ·obtain rfl:n=1:=by omega
  subst hc1;have ht0:t=f 0:=HT.out
  subst ht0;go_enter Tryz.func24,Tryz.ntmps24;go_wp2_with fail;refine(pN _).mono ?_;rintro r w1 ⟨rfl,hb1⟩;have B1:=aA (aB (aC w _) hb1)
  have Z1:=aA ((bL.box w 47 bG).below hb1);clear hb1;go_wp2_with fail;refine(eD _ _ _ _ f (HR.out.below B1.out)).mono ?_;rw[hp];rintro r w2 ⟨rfl,hb2⟩;have B2:=aA (aB B1.out hb2)
  have Z2:=aA (Z1.out.below hb2);have zw2:w.heap.size<w2.heap.size:=Z2.out.1.lt
  clear hb2 Z1 HR;obtain⟨g0,g1,g2,g3,g4⟩:=(HCL.out 0 hpos).below B2.out hblt;simp only[Nat.zero_mul,Nat.add_zero]at g0 g1 g2 g3 g4;go_wp2;have B3:=aA (B2.out.alloc B2.out.size (.cells #[.int .i64 (f 0).c,.int .i64 (f 0).m.x,.int .i64 (f 0).m.y,.int .i64 (f 0).m.d,.int .i64 (f 0).m.e] 47))
  have Z3:=aA (Z2.out.below (aC w2 (.cells #[.int .i64 (f 0).c,.int .i64 (f 0).m.x,.int .i64 (f 0).m.y,.int .i64 (f 0).m.d,.int .i64 (f 0).m.e] 47)));have L3:=aA (bL.box w2 47 (f 0))
  clear g0 g1 g2 g3 g4 Z2;go_loopw [35] (fun ii wr=>ii= .int .i64 0∧Below w.heap.size w wr∧bL wr w.heap.size bG∧bL wr w2.heap.size (f 0)) (fun _ _=>0);case atStart=>exact⟨rfl,B3.out,Z3.out,L3.out⟩
  case round=>
   obtain⟨rfl,hB,hZ,hL⟩:=hrel;obtain⟨⟨z0,z1,z2,z3,z4⟩,fz⟩:=hZ;obtain⟨⟨l0,l1,l2,l3,l4⟩,_⟩:=hL;simp only[bG]at z0 z1 z2 z3 z4;go_wp2;refine cB (v:=.tuple #[.agg #[.int .i64 (f 0).c,.int .i64 (f 0).m.x,.int .i64 (f 0).m.y,.int .i64 (f 0).m.d,.int .i64 (f 0).m.e],.bool true]) (by simp[results,Tryz.results24,go_sem, *]) rfl ⟨rfl,?_⟩;exact bQ hB (Nat.le_refl _) _ _ _ _ _
 go_enter Tryz.func24,Tryz.ntmps24;go_wp2_with fail;refine(pN _).mono ?_;rintro r w1 ⟨rfl,hb1⟩;have B1:=aA (aB (aC w _) hb1)
 have Z1:=aA ((bL.box w 47 bG).below hb1);clear hb1;go_wp2_with fail;refine(eD _ _ _ _ f (HR.out.below B1.out)).mono ?_;rw[hp];rintro r w2 ⟨rfl,hb2⟩;have B2:=aA (aB B1.out hb2)
 have Z2:=aA (Z1.out.below hb2);have zw2:w.heap.size<w2.heap.size:=Z2.out.1.lt
 have bw2:b<w2.heap.size:=lG hblt B2.out.size;clear hb2 Z1 HR;obtain⟨g0,g1,g2,g3,g4⟩:=(HCL.out 0 hpos).below B2.out hblt;simp only[Nat.zero_mul,Nat.add_zero]at g0 g1 g2 g3 g4;go_wp2;have B3:=aA (B2.out.alloc B2.out.size (.cells #[.int .i64 (f 0).c,.int .i64 (f 0).m.x,.int .i64 (f 0).m.y,.int .i64 (f 0).m.d,.int .i64 (f 0).m.e] 47))
 have Z3:=aA (Z2.out.below (aC w2 (.cells #[.int .i64 (f 0).c,.int .i64 (f 0).m.x,.int .i64 (f 0).m.y,.int .i64 (f 0).m.d,.int .i64 (f 0).m.e] 47)));have L3:=aA (bL.box w2 47 (f 0))
 clear g0 g1 g2 g3 g4 Z2;go_loopw [35] (fun ii wr=>∃i j:Nat,i≤n-1∧j<n∧ii= .int .i64 i∧Below w.heap.size w wr∧bL wr w.heap.size bG∧bL wr w2.heap.size (f j)∧Hid (aV 1 f (n-1-i) (i+1) j=aX 1 f n)) (fun ii _=>n-(intOf ii).toNat);case atStart=>exact⟨0,0,gL _,hpos,rfl,B3.out,Z3.out,L3.out,rfl⟩
 case round=>
  obtain⟨i,j,hi,hj,rfl,hB,hZ,hL,HL⟩:=hrel;have HZ:=aA hZ
  have HLE:=aA hL;have zwr:w2.heap.size<wr.heap.size:=hL.1.lt
  clear hZ hL;by_cases hlt:i<n-1
  ·have hi1:i+1<n:=by omega
   have hin:(i:Int)<((n-1:Nat):Int):=by omega
   obtain⟨g0,g1,g2,g3,g4⟩:=(HCL.out (i+1) hi1).below hB hblt;rw[show off+(i+1)*5=off+5+i*5 by omega]at g0 g1 g2 g3 g4;have HOI:=aA (HM.out (i+1) hi1)
   have HOJ:=aA (HM.out j hj);have BQ:=aA (hB.alloc hB.size (.cells #[.int .i64 (f (i+1)).c,.int .i64 (f (i+1)).m.x,.int .i64 (f (i+1)).m.y,.int .i64 (f (i+1)).m.d,.int .i64 (f (i+1)).m.e] 47))
   have ZQ:=aA (HZ.out.below (aC wr (.cells #[.int .i64 (f (i+1)).c,.int .i64 (f (i+1)).m.x,.int .i64 (f (i+1)).m.y,.int .i64 (f (i+1)).m.d,.int .i64 (f (i+1)).m.e] 47)));have LQ:=aA (HLE.out.below (aC wr (.cells #[.int .i64 (f (i+1)).c,.int .i64 (f (i+1)).m.x,.int .i64 (f (i+1)).m.y,.int .i64 (f (i+1)).m.d,.int .i64 (f (i+1)).m.e] 47)))
   have TQ:=aA (C5.box wr 47 (f (i+1)));go_wp2_with fail;generalize(wr.alloc (.cells #[.int .i64 (f (i+1)).c,.int .i64 (f (i+1)).m.x,.int .i64 (f (i+1)).m.y,.int .i64 (f (i+1)).m.d,.int .i64 (f (i+1)).m.e] 47))=wq at BQ ZQ LQ TQ⊢;clear g0 g1 g2 g3 g4 HZ HLE;have ne:=cX.there wq
   have s1:∀u:cX wq,u.1.cell? ⟨wr.heap.size,1,none⟩=some (.int .i64 (f (i+1)).m.x):=fun u=>(u.cell TQ.out.lt).trans TQ.out.2.1;have s2:∀u:cX wq,u.1.cell? ⟨wr.heap.size,2,none⟩=some (.int .i64 (f (i+1)).m.y):=fun u=>(u.cell TQ.out.lt).trans TQ.out.2.2.1
   have s3:∀u:cX wq,u.1.cell? ⟨wr.heap.size,3,none⟩=some (.int .i64 (f (i+1)).m.d):=fun u=>(u.cell TQ.out.lt).trans TQ.out.2.2.2.1;have s4:∀u:cX wq,u.1.cell? ⟨wr.heap.size,4,none⟩=some (.int .i64 (f (i+1)).m.e):=fun u=>(u.cell TQ.out.lt).trans TQ.out.2.2.2.2
   have t1:∀u:cX wq,u.1.cell? ⟨w2.heap.size,1,none⟩=some (.int .i64 (f j).m.x):=fun u=>(u.cell LQ.out.1.lt).trans LQ.out.1.2.1;have t2:∀u:cX wq,u.1.cell? ⟨w2.heap.size,2,none⟩=some (.int .i64 (f j).m.y):=fun u=>(u.cell LQ.out.1.lt).trans LQ.out.1.2.2.1
   have t3:∀u:cX wq,u.1.cell? ⟨w2.heap.size,3,none⟩=some (.int .i64 (f j).m.d):=fun u=>(u.cell LQ.out.1.lt).trans LQ.out.1.2.2.2.1;have t4:∀u:cX wq,u.1.cell? ⟨w2.heap.size,4,none⟩=some (.int .i64 (f j).m.e):=fun u=>(u.cell LQ.out.1.lt).trans LQ.out.1.2.2.2.2
   by_cases hq:dY (f j).m<dY (f (i+1)).m
   ·have dq:decide (dY ⟨(f j).m.x,(f j).m.y,(f j).m.d,(f j).m.e⟩<dY ⟨(f (i+1)).m.x,(f (i+1)).m.y,(f (i+1)).m.d,(f (i+1)).m.e⟩)=true:=decide_eq_true hq;have hord:0<M.ord 1 (f (i+1)).m (f j).m:=by rw[←xC HOI.out HOJ.out];exact sW.2 hq
    have HN:Hid (aV 1 f (n-1-(i+1)) (i+1+1) (i+1)=aX 1 f n):=by show _=_;rw[←HL.out,show n-1-i=(n-1-(i+1))+1 by omega,aV,if_pos hord]
    clear hq HL hord;refine aJ (by kernel_rfl) (by kernel_rfl) ?_;repeat(go_big_quiet_step (first|(go_at_call 97;exact aM (fU _ _ _ _ _ HOI.out))|(go_at_call 97;exact aM (fU _ _ _ _ _ HOJ.out))))
    refine wpQuiet_nil ?_;rintro _ ⟨v,rfl⟩;have BV:=aA (BQ.out.trans (v.2.mono BQ.out.size))
    have ZV:=aA (ZQ.out.below v.2);have LV:=aA (LQ.out.below v.2)
    have TV:=aA (TQ.out.below v.2);obtain⟨u,hu⟩:∃u,v.1=u:=⟨_,rfl⟩
    rw[hu]at BV ZV LV TV⊢;clear hu s1 s2 s3 s4 t1 t2 t3 t4 ne v;obtain⟨q0,q1,q2,q3,q4⟩:=TV.out;obtain⟨⟨l0,l1,l2,l3,l4⟩,lz⟩:=LV.out;go_wp2;go_roundw
    case rel=>
     refine⟨i+1,i+1,by omega,hi1,by go_num,bQ BV.out (by omega) _ _ _ _ _,ZV.out.far (by omega),⟨⟨by go_simp,by go_simp,by go_simp,by go_simp,by go_simp⟩,fun j=>by go_simp⟩,HN⟩
    case measure=>simp[intOf];omega
   ·have dq:decide (dY ⟨(f j).m.x,(f j).m.y,(f j).m.d,(f j).m.e⟩<dY ⟨(f (i+1)).m.x,(f (i+1)).m.y,(f (i+1)).m.d,(f (i+1)).m.e⟩)=false:=decide_eq_false hq;have hord:¬0<M.ord 1 (f (i+1)).m (f j).m:=by rw[←xC HOI.out HOJ.out];exact fun h=>hq (sW.1 h)
    have HN:Hid (aV 1 f (n-1-(i+1)) (i+1+1) j=aX 1 f n):=by show _=_;rw[←HL.out,show n-1-i=(n-1-(i+1))+1 by omega,aV,if_neg hord]
    clear hq HL hord;refine aJ (by kernel_rfl) (by kernel_rfl) ?_;repeat(go_big_quiet_step (first|(go_at_call 97;exact aM (fU _ _ _ _ _ HOI.out))|(go_at_call 97;exact aM (fU _ _ _ _ _ HOJ.out))))
    refine wpQuiet_nil ?_;rintro _ ⟨v,rfl⟩;have BV:=aA (BQ.out.trans (v.2.mono BQ.out.size))
    have ZV:=aA (ZQ.out.below v.2);have LV:=aA (LQ.out.below v.2)
    obtain⟨u,hu⟩:∃u,v.1=u:=⟨_,rfl⟩
    rw[hu]at BV ZV LV⊢;clear hu s1 s2 s3 s4 t1 t2 t3 t4 ne v;go_wp2;go_roundw;case rel=>exact⟨i+1,j,by omega,hj,by go_num,BV.out,ZV.out,LV.out,HN⟩
    case measure=>simp[intOf];omega
  ·have hjl:Hid (f j=t):=by show _=_;rw[HT.out,←HL.out,show n-1-i=0 by omega];rfl
   have hin:¬(i:Int)<((n-1:Nat):Int):=by omega
   obtain⟨⟨z0,z1,z2,z3,z4⟩,fz⟩:=HZ.out;obtain⟨⟨l0,l1,l2,l3,l4⟩,_⟩:=HLE.out;simp only[bG]at z0 z1 z2 z3 z4;rw[hjl.out]at l0 l1 l2 l3 l4;clear HL HZ HLE;go_wp2;refine cB (v:=.tuple #[.agg #[.int .i64 t.c,.int .i64 t.m.x,.int .i64 t.m.y,.int .i64 t.m.d,.int .i64 t.m.e],.bool true]) (by simp[results,Tryz.results24,go_sem, *]) rfl ⟨rfl,?_⟩;exact bQ hB (Nat.le_refl _) _ _ _ _ _
theorem LY (w:World) (a:Option Addr) (n cap:Nat) (f:Nat→T) (h:Rd w a n cap f) (hp:aN n f=true) (hpos:0<n):Calls Tryz.prog 24 #[.int .i64 2,.slice a n cap] w fun r w'=>r= .returned (.tuple #[.agg #[.int .i64 (bO 2 n f).c,.int .i64 (bO 2 n f).m.x,.int .i64 (bO 2 n f).m.y,.int .i64 (bO 2 n f).m.d,.int .i64 (bO 2 n f).m.e],.bool (bH 2 n f)])∧Below w.heap.size w w':=by
 have HR:=aA h;obtain⟨h1,h2,h3⟩:=h;have hn:(n:Int)≤140737488351232:=by omega
 have e1:bH 2 n f=true:=by simp[bH,hp,hpos]
 rw[eF e1,e1];clear e1;have hne:((n:Int)==0)=false:=by simp;omega
 have HM:=aA (sJ hp);obtain⟨t,ht⟩:∃t,t=f (aX 2 f n):=⟨_,rfl⟩
 rw[←ht];have HT:=aA ht
 obtain⟨b,off,rfl,hblt,hcl⟩:=h3.resolve_left (by omega);have HCL:=aA hcl
 clear ht h3 hcl;have hn1:(0:Int)<(n:Int):=by omega
 have hn2:(1:Int)≤(n:Int):=by omega
 have hn3:(1:Int)≤(cap:Int):=by omega
 have hn4:(n:Int)≤(cap:Int):=by omega
 have hn5:1≤n:=by omega
 have hn6:1≤cap:=by omega
 by_cases hc1:cap=1
 ·obtain rfl:n=1:=by omega
  subst hc1;have ht0:t=f 0:=HT.out
  subst ht0;go_enter Tryz.func24,Tryz.ntmps24;go_wp2_with fail;refine(pO _).mono ?_;rintro r w1 ⟨rfl,hb1⟩;have B1:=aA (aB (aC w _) hb1)
  have Z1:=aA ((bL.box w 47 bG).below hb1);clear hb1;go_wp2_with fail;refine(eD _ _ _ _ f (HR.out.below B1.out)).mono ?_;rw[hp];rintro r w2 ⟨rfl,hb2⟩;have B2:=aA (aB B1.out hb2)
  have Z2:=aA (Z1.out.below hb2);have zw2:w.heap.size<w2.heap.size:=Z2.out.1.lt
  clear hb2 Z1 HR;obtain⟨g0,g1,g2,g3,g4⟩:=(HCL.out 0 hpos).below B2.out hblt;simp only[Nat.zero_mul,Nat.add_zero]at g0 g1 g2 g3 g4;go_wp2;have B3:=aA (B2.out.alloc B2.out.size (.cells #[.int .i64 (f 0).c,.int .i64 (f 0).m.x,.int .i64 (f 0).m.y,.int .i64 (f 0).m.d,.int .i64 (f 0).m.e] 47))
  have Z3:=aA (Z2.out.below (aC w2 (.cells #[.int .i64 (f 0).c,.int .i64 (f 0).m.x,.int .i64 (f 0).m.y,.int .i64 (f 0).m.d,.int .i64 (f 0).m.e] 47)));have L3:=aA (bL.box w2 47 (f 0))
  clear g0 g1 g2 g3 g4 Z2;go_loopw [35] (fun ii wr=>ii= .int .i64 0∧Below w.heap.size w wr∧bL wr w.heap.size bG∧bL wr w2.heap.size (f 0)) (fun _ _=>0);case atStart=>exact⟨rfl,B3.out,Z3.out,L3.out⟩
  case round=>
   obtain⟨rfl,hB,hZ,hL⟩:=hrel;obtain⟨⟨z0,z1,z2,z3,z4⟩,fz⟩:=hZ;obtain⟨⟨l0,l1,l2,l3,l4⟩,_⟩:=hL;simp only[bG]at z0 z1 z2 z3 z4;go_wp2;refine cB (v:=.tuple #[.agg #[.int .i64 (f 0).c,.int .i64 (f 0).m.x,.int .i64 (f 0).m.y,.int .i64 (f 0).m.d,.int .i64 (f 0).m.e],.bool true]) (by simp[results,Tryz.results24,go_sem, *]) rfl ⟨rfl,?_⟩;exact bQ hB (Nat.le_refl _) _ _ _ _ _
 go_enter Tryz.func24,Tryz.ntmps24;go_wp2_with fail;refine(pO _).mono ?_;rintro r w1 ⟨rfl,hb1⟩;have B1:=aA (aB (aC w _) hb1)
 have Z1:=aA ((bL.box w 47 bG).below hb1);clear hb1;go_wp2_with fail;refine(eD _ _ _ _ f (HR.out.below B1.out)).mono ?_;rw[hp];rintro r w2 ⟨rfl,hb2⟩;have B2:=aA (aB B1.out hb2)
 have Z2:=aA (Z1.out.below hb2);have zw2:w.heap.size<w2.heap.size:=Z2.out.1.lt
 have bw2:b<w2.heap.size:=lG hblt B2.out.size;clear hb2 Z1 HR;obtain⟨g0,g1,g2,g3,g4⟩:=(HCL.out 0 hpos).below B2.out hblt;simp only[Nat.zero_mul,Nat.add_zero]at g0 g1 g2 g3 g4;go_wp2;have B3:=aA (B2.out.alloc B2.out.size (.cells #[.int .i64 (f 0).c,.int .i64 (f 0).m.x,.int .i64 (f 0).m.y,.int .i64 (f 0).m.d,.int .i64 (f 0).m.e] 47))
 have Z3:=aA (Z2.out.below (aC w2 (.cells #[.int .i64 (f 0).c,.int .i64 (f 0).m.x,.int .i64 (f 0).m.y,.int .i64 (f 0).m.d,.int .i64 (f 0).m.e] 47)));have L3:=aA (bL.box w2 47 (f 0))
 clear g0 g1 g2 g3 g4 Z2;go_loopw [35] (fun ii wr=>∃i j:Nat,i≤n-1∧j<n∧ii= .int .i64 i∧Below w.heap.size w wr∧bL wr w.heap.size bG∧bL wr w2.heap.size (f j)∧Hid (aV 2 f (n-1-i) (i+1) j=aX 2 f n)) (fun ii _=>n-(intOf ii).toNat);case atStart=>exact⟨0,0,gL _,hpos,rfl,B3.out,Z3.out,L3.out,rfl⟩
 case round=>
  obtain⟨i,j,hi,hj,rfl,hB,hZ,hL,HL⟩:=hrel;have HZ:=aA hZ
  have HLE:=aA hL;have zwr:w2.heap.size<wr.heap.size:=hL.1.lt
  clear hZ hL;by_cases hlt:i<n-1
  ·have hi1:i+1<n:=by omega
   have hin:(i:Int)<((n-1:Nat):Int):=by omega
   obtain⟨g0,g1,g2,g3,g4⟩:=(HCL.out (i+1) hi1).below hB hblt;rw[show off+(i+1)*5=off+5+i*5 by omega]at g0 g1 g2 g3 g4;have HOI:=aA (HM.out (i+1) hi1)
   have HOJ:=aA (HM.out j hj);have BQ:=aA (hB.alloc hB.size (.cells #[.int .i64 (f (i+1)).c,.int .i64 (f (i+1)).m.x,.int .i64 (f (i+1)).m.y,.int .i64 (f (i+1)).m.d,.int .i64 (f (i+1)).m.e] 47))
   have ZQ:=aA (HZ.out.below (aC wr (.cells #[.int .i64 (f (i+1)).c,.int .i64 (f (i+1)).m.x,.int .i64 (f (i+1)).m.y,.int .i64 (f (i+1)).m.d,.int .i64 (f (i+1)).m.e] 47)));have LQ:=aA (HLE.out.below (aC wr (.cells #[.int .i64 (f (i+1)).c,.int .i64 (f (i+1)).m.x,.int .i64 (f (i+1)).m.y,.int .i64 (f (i+1)).m.d,.int .i64 (f (i+1)).m.e] 47)))
   have TQ:=aA (C5.box wr 47 (f (i+1)));go_wp2_with fail;generalize(wr.alloc (.cells #[.int .i64 (f (i+1)).c,.int .i64 (f (i+1)).m.x,.int .i64 (f (i+1)).m.y,.int .i64 (f (i+1)).m.d,.int .i64 (f (i+1)).m.e] 47))=wq at BQ ZQ LQ TQ⊢;clear g0 g1 g2 g3 g4 HZ HLE;have ne:=cX.there wq
   have s1:∀u:cX wq,u.1.cell? ⟨wr.heap.size,1,none⟩=some (.int .i64 (f (i+1)).m.x):=fun u=>(u.cell TQ.out.lt).trans TQ.out.2.1;have s2:∀u:cX wq,u.1.cell? ⟨wr.heap.size,2,none⟩=some (.int .i64 (f (i+1)).m.y):=fun u=>(u.cell TQ.out.lt).trans TQ.out.2.2.1
   have s3:∀u:cX wq,u.1.cell? ⟨wr.heap.size,3,none⟩=some (.int .i64 (f (i+1)).m.d):=fun u=>(u.cell TQ.out.lt).trans TQ.out.2.2.2.1;have s4:∀u:cX wq,u.1.cell? ⟨wr.heap.size,4,none⟩=some (.int .i64 (f (i+1)).m.e):=fun u=>(u.cell TQ.out.lt).trans TQ.out.2.2.2.2
   have t1:∀u:cX wq,u.1.cell? ⟨w2.heap.size,1,none⟩=some (.int .i64 (f j).m.x):=fun u=>(u.cell LQ.out.1.lt).trans LQ.out.1.2.1;have t2:∀u:cX wq,u.1.cell? ⟨w2.heap.size,2,none⟩=some (.int .i64 (f j).m.y):=fun u=>(u.cell LQ.out.1.lt).trans LQ.out.1.2.2.1
   have t3:∀u:cX wq,u.1.cell? ⟨w2.heap.size,3,none⟩=some (.int .i64 (f j).m.d):=fun u=>(u.cell LQ.out.1.lt).trans LQ.out.1.2.2.2.1;have t4:∀u:cX wq,u.1.cell? ⟨w2.heap.size,4,none⟩=some (.int .i64 (f j).m.e):=fun u=>(u.cell LQ.out.1.lt).trans LQ.out.1.2.2.2.2
   by_cases hq:fK (f j).m<fK (f (i+1)).m
   ·have dq:decide (fK ⟨(f j).m.x,(f j).m.y,(f j).m.d,(f j).m.e⟩<fK ⟨(f (i+1)).m.x,(f (i+1)).m.y,(f (i+1)).m.d,(f (i+1)).m.e⟩)=true:=decide_eq_true hq;have hord:0<M.ord 2 (f (i+1)).m (f j).m:=by rw[←GF HOI.out HOJ.out];exact sW.2 hq
    have HN:Hid (aV 2 f (n-1-(i+1)) (i+1+1) (i+1)=aX 2 f n):=by show _=_;rw[←HL.out,show n-1-i=(n-1-(i+1))+1 by omega,aV,if_pos hord]
    clear hq HL hord;refine aJ (by kernel_rfl) (by kernel_rfl) ?_;repeat(go_big_quiet_step (first|(go_at_call 114;exact aM (gR _ _ _ _ _ HOI.out))|(go_at_call 114;exact aM (gR _ _ _ _ _ HOJ.out))))
    refine wpQuiet_nil ?_;rintro _ ⟨v,rfl⟩;have BV:=aA (BQ.out.trans (v.2.mono BQ.out.size))
    have ZV:=aA (ZQ.out.below v.2);have LV:=aA (LQ.out.below v.2)
    have TV:=aA (TQ.out.below v.2);obtain⟨u,hu⟩:∃u,v.1=u:=⟨_,rfl⟩
    rw[hu]at BV ZV LV TV⊢;clear hu s1 s2 s3 s4 t1 t2 t3 t4 ne v;obtain⟨q0,q1,q2,q3,q4⟩:=TV.out;obtain⟨⟨l0,l1,l2,l3,l4⟩,lz⟩:=LV.out;go_wp2;go_roundw
    case rel=>
     refine⟨i+1,i+1,by omega,hi1,by go_num,bQ BV.out (by omega) _ _ _ _ _,ZV.out.far (by omega),⟨⟨by go_simp,by go_simp,by go_simp,by go_simp,by go_simp⟩,fun j=>by go_simp⟩,HN⟩
    case measure=>simp[intOf];omega
   ·have dq:decide (fK ⟨(f j).m.x,(f j).m.y,(f j).m.d,(f j).m.e⟩<fK ⟨(f (i+1)).m.x,(f (i+1)).m.y,(f (i+1)).m.d,(f (i+1)).m.e⟩)=false:=decide_eq_false hq;have hord:¬0<M.ord 2 (f (i+1)).m (f j).m:=by rw[←GF HOI.out HOJ.out];exact fun h=>hq (sW.1 h)
    have HN:Hid (aV 2 f (n-1-(i+1)) (i+1+1) j=aX 2 f n):=by show _=_;rw[←HL.out,show n-1-i=(n-1-(i+1))+1 by omega,aV,if_neg hord]
    clear hq HL hord;refine aJ (by kernel_rfl) (by kernel_rfl) ?_;repeat(go_big_quiet_step (first|(go_at_call 114;exact aM (gR _ _ _ _ _ HOI.out))|(go_at_call 114;exact aM (gR _ _ _ _ _ HOJ.out))))
    refine wpQuiet_nil ?_;rintro _ ⟨v,rfl⟩;have BV:=aA (BQ.out.trans (v.2.mono BQ.out.size))
    have ZV:=aA (ZQ.out.below v.2);have LV:=aA (LQ.out.below v.2)
    obtain⟨u,hu⟩:∃u,v.1=u:=⟨_,rfl⟩
    rw[hu]at BV ZV LV⊢;clear hu s1 s2 s3 s4 t1 t2 t3 t4 ne v;go_wp2;go_roundw;case rel=>exact⟨i+1,j,by omega,hj,by go_num,BV.out,ZV.out,LV.out,HN⟩
    case measure=>simp[intOf];omega
  ·have hjl:Hid (f j=t):=by show _=_;rw[HT.out,←HL.out,show n-1-i=0 by omega];rfl
   have hin:¬(i:Int)<((n-1:Nat):Int):=by omega
   obtain⟨⟨z0,z1,z2,z3,z4⟩,fz⟩:=HZ.out;obtain⟨⟨l0,l1,l2,l3,l4⟩,_⟩:=HLE.out;simp only[bG]at z0 z1 z2 z3 z4;rw[hjl.out]at l0 l1 l2 l3 l4;clear HL HZ HLE;go_wp2;refine cB (v:=.tuple #[.agg #[.int .i64 t.c,.int .i64 t.m.x,.int .i64 t.m.y,.int .i64 t.m.d,.int .i64 t.m.e],.bool true]) (by simp[results,Tryz.results24,go_sem, *]) rfl ⟨rfl,?_⟩;exact bQ hB (Nat.le_refl _) _ _ _ _ _
theorem LZ (w:World) (a:Option Addr) (n cap:Nat) (f:Nat→T) (h:Rd w a n cap f) (hp:aN n f=true) (hpos:0<n):Calls Tryz.prog 24 #[.int .i64 3,.slice a n cap] w fun r w'=>r= .returned (.tuple #[.agg #[.int .i64 (bO 3 n f).c,.int .i64 (bO 3 n f).m.x,.int .i64 (bO 3 n f).m.y,.int .i64 (bO 3 n f).m.d,.int .i64 (bO 3 n f).m.e],.bool (bH 3 n f)])∧Below w.heap.size w w':=by
 have HR:=aA h;obtain⟨h1,h2,h3⟩:=h;have hn:(n:Int)≤140737488351232:=by omega
 have e1:bH 3 n f=true:=by simp[bH,hp,hpos]
 rw[eF e1,e1];clear e1;have hne:((n:Int)==0)=false:=by simp;omega
 have HM:=aA (sJ hp);obtain⟨t,ht⟩:∃t,t=f (aX 3 f n):=⟨_,rfl⟩
 rw[←ht];have HT:=aA ht
 obtain⟨b,off,rfl,hblt,hcl⟩:=h3.resolve_left (by omega);have HCL:=aA hcl
 clear ht h3 hcl;have hn1:(0:Int)<(n:Int):=by omega
 have hn2:(1:Int)≤(n:Int):=by omega
 have hn3:(1:Int)≤(cap:Int):=by omega
 have hn4:(n:Int)≤(cap:Int):=by omega
 have hn5:1≤n:=by omega
 have hn6:1≤cap:=by omega
 by_cases hc1:cap=1
 ·obtain rfl:n=1:=by omega
  subst hc1;have ht0:t=f 0:=HT.out
  subst ht0;go_enter Tryz.func24,Tryz.ntmps24;go_wp2_with fail;refine(pP _).mono ?_;rintro r w1 ⟨rfl,hb1⟩;have B1:=aA (aB (aC w _) hb1)
  have Z1:=aA ((bL.box w 47 bG).below hb1);clear hb1;go_wp2_with fail;refine(eD _ _ _ _ f (HR.out.below B1.out)).mono ?_;rw[hp];rintro r w2 ⟨rfl,hb2⟩;have B2:=aA (aB B1.out hb2)
  have Z2:=aA (Z1.out.below hb2);have zw2:w.heap.size<w2.heap.size:=Z2.out.1.lt
  clear hb2 Z1 HR;obtain⟨g0,g1,g2,g3,g4⟩:=(HCL.out 0 hpos).below B2.out hblt;simp only[Nat.zero_mul,Nat.add_zero]at g0 g1 g2 g3 g4;go_wp2;have B3:=aA (B2.out.alloc B2.out.size (.cells #[.int .i64 (f 0).c,.int .i64 (f 0).m.x,.int .i64 (f 0).m.y,.int .i64 (f 0).m.d,.int .i64 (f 0).m.e] 47))
  have Z3:=aA (Z2.out.below (aC w2 (.cells #[.int .i64 (f 0).c,.int .i64 (f 0).m.x,.int .i64 (f 0).m.y,.int .i64 (f 0).m.d,.int .i64 (f 0).m.e] 47)));have L3:=aA (bL.box w2 47 (f 0))
  clear g0 g1 g2 g3 g4 Z2;go_loopw [35] (fun ii wr=>ii= .int .i64 0∧Below w.heap.size w wr∧bL wr w.heap.size bG∧bL wr w2.heap.size (f 0)) (fun _ _=>0);case atStart=>exact⟨rfl,B3.out,Z3.out,L3.out⟩
  case round=>
   obtain⟨rfl,hB,hZ,hL⟩:=hrel;obtain⟨⟨z0,z1,z2,z3,z4⟩,fz⟩:=hZ;obtain⟨⟨l0,l1,l2,l3,l4⟩,_⟩:=hL;simp only[bG]at z0 z1 z2 z3 z4;go_wp2;refine cB (v:=.tuple #[.agg #[.int .i64 (f 0).c,.int .i64 (f 0).m.x,.int .i64 (f 0).m.y,.int .i64 (f 0).m.d,.int .i64 (f 0).m.e],.bool true]) (by simp[results,Tryz.results24,go_sem, *]) rfl ⟨rfl,?_⟩;exact bQ hB (Nat.le_refl _) _ _ _ _ _
 go_enter Tryz.func24,Tryz.ntmps24;go_wp2_with fail;refine(pP _).mono ?_;rintro r w1 ⟨rfl,hb1⟩;have B1:=aA (aB (aC w _) hb1)
 have Z1:=aA ((bL.box w 47 bG).below hb1);clear hb1;go_wp2_with fail;refine(eD _ _ _ _ f (HR.out.below B1.out)).mono ?_;rw[hp];rintro r w2 ⟨rfl,hb2⟩;have B2:=aA (aB B1.out hb2)
 have Z2:=aA (Z1.out.below hb2);have zw2:w.heap.size<w2.heap.size:=Z2.out.1.lt
 have bw2:b<w2.heap.size:=lG hblt B2.out.size;clear hb2 Z1 HR;obtain⟨g0,g1,g2,g3,g4⟩:=(HCL.out 0 hpos).below B2.out hblt;simp only[Nat.zero_mul,Nat.add_zero]at g0 g1 g2 g3 g4;go_wp2;have B3:=aA (B2.out.alloc B2.out.size (.cells #[.int .i64 (f 0).c,.int .i64 (f 0).m.x,.int .i64 (f 0).m.y,.int .i64 (f 0).m.d,.int .i64 (f 0).m.e] 47))
 have Z3:=aA (Z2.out.below (aC w2 (.cells #[.int .i64 (f 0).c,.int .i64 (f 0).m.x,.int .i64 (f 0).m.y,.int .i64 (f 0).m.d,.int .i64 (f 0).m.e] 47)));have L3:=aA (bL.box w2 47 (f 0))
 clear g0 g1 g2 g3 g4 Z2;go_loopw [35] (fun ii wr=>∃i j:Nat,i≤n-1∧j<n∧ii= .int .i64 i∧Below w.heap.size w wr∧bL wr w.heap.size bG∧bL wr w2.heap.size (f j)∧Hid (aV 3 f (n-1-i) (i+1) j=aX 3 f n)) (fun ii _=>n-(intOf ii).toNat);case atStart=>exact⟨0,0,gL _,hpos,rfl,B3.out,Z3.out,L3.out,rfl⟩
 case round=>
  obtain⟨i,j,hi,hj,rfl,hB,hZ,hL,HL⟩:=hrel;have HZ:=aA hZ
  have HLE:=aA hL;have zwr:w2.heap.size<wr.heap.size:=hL.1.lt
  clear hZ hL;by_cases hlt:i<n-1
  ·have hi1:i+1<n:=by omega
   have hin:(i:Int)<((n-1:Nat):Int):=by omega
   obtain⟨g0,g1,g2,g3,g4⟩:=(HCL.out (i+1) hi1).below hB hblt;rw[show off+(i+1)*5=off+5+i*5 by omega]at g0 g1 g2 g3 g4;have HOI:=aA (HM.out (i+1) hi1)
   have HOJ:=aA (HM.out j hj);have BQ:=aA (hB.alloc hB.size (.cells #[.int .i64 (f (i+1)).c,.int .i64 (f (i+1)).m.x,.int .i64 (f (i+1)).m.y,.int .i64 (f (i+1)).m.d,.int .i64 (f (i+1)).m.e] 47))
   have ZQ:=aA (HZ.out.below (aC wr (.cells #[.int .i64 (f (i+1)).c,.int .i64 (f (i+1)).m.x,.int .i64 (f (i+1)).m.y,.int .i64 (f (i+1)).m.d,.int .i64 (f (i+1)).m.e] 47)));have LQ:=aA (HLE.out.below (aC wr (.cells #[.int .i64 (f (i+1)).c,.int .i64 (f (i+1)).m.x,.int .i64 (f (i+1)).m.y,.int .i64 (f (i+1)).m.d,.int .i64 (f (i+1)).m.e] 47)))
   have TQ:=aA (C5.box wr 47 (f (i+1)));go_wp2_with fail;generalize(wr.alloc (.cells #[.int .i64 (f (i+1)).c,.int .i64 (f (i+1)).m.x,.int .i64 (f (i+1)).m.y,.int .i64 (f (i+1)).m.d,.int .i64 (f (i+1)).m.e] 47))=wq at BQ ZQ LQ TQ⊢;clear g0 g1 g2 g3 g4 HZ HLE;have ne:=cX.there wq
   have s1:∀u:cX wq,u.1.cell? ⟨wr.heap.size,1,none⟩=some (.int .i64 (f (i+1)).m.x):=fun u=>(u.cell TQ.out.lt).trans TQ.out.2.1;have s2:∀u:cX wq,u.1.cell? ⟨wr.heap.size,2,none⟩=some (.int .i64 (f (i+1)).m.y):=fun u=>(u.cell TQ.out.lt).trans TQ.out.2.2.1
   have s3:∀u:cX wq,u.1.cell? ⟨wr.heap.size,3,none⟩=some (.int .i64 (f (i+1)).m.d):=fun u=>(u.cell TQ.out.lt).trans TQ.out.2.2.2.1;have s4:∀u:cX wq,u.1.cell? ⟨wr.heap.size,4,none⟩=some (.int .i64 (f (i+1)).m.e):=fun u=>(u.cell TQ.out.lt).trans TQ.out.2.2.2.2
   have t1:∀u:cX wq,u.1.cell? ⟨w2.heap.size,1,none⟩=some (.int .i64 (f j).m.x):=fun u=>(u.cell LQ.out.1.lt).trans LQ.out.1.2.1;have t2:∀u:cX wq,u.1.cell? ⟨w2.heap.size,2,none⟩=some (.int .i64 (f j).m.y):=fun u=>(u.cell LQ.out.1.lt).trans LQ.out.1.2.2.1
   have t3:∀u:cX wq,u.1.cell? ⟨w2.heap.size,3,none⟩=some (.int .i64 (f j).m.d):=fun u=>(u.cell LQ.out.1.lt).trans LQ.out.1.2.2.2.1;have t4:∀u:cX wq,u.1.cell? ⟨w2.heap.size,4,none⟩=some (.int .i64 (f j).m.e):=fun u=>(u.cell LQ.out.1.lt).trans LQ.out.1.2.2.2.2
   by_cases hq:tS (f j).m<tS (f (i+1)).m
   ·have dq:decide (tS ⟨(f j).m.x,(f j).m.y,(f j).m.d,(f j).m.e⟩<tS ⟨(f (i+1)).m.x,(f (i+1)).m.y,(f (i+1)).m.d,(f (i+1)).m.e⟩)=true:=decide_eq_true hq;have hord:0<M.ord 3 (f (i+1)).m (f j).m:=by rw[←GE HOI.out HOJ.out];exact sW.2 hq
    have HN:Hid (aV 3 f (n-1-(i+1)) (i+1+1) (i+1)=aX 3 f n):=by show _=_;rw[←HL.out,show n-1-i=(n-1-(i+1))+1 by omega,aV,if_pos hord]
    clear hq HL hord;refine aJ (by kernel_rfl) (by kernel_rfl) ?_;repeat(go_big_quiet_step (first|(go_at_call 115;exact aM (jE _ _ _ _ _ HOI.out))|(go_at_call 115;exact aM (jE _ _ _ _ _ HOJ.out))))
    refine wpQuiet_nil ?_;rintro _ ⟨v,rfl⟩;have BV:=aA (BQ.out.trans (v.2.mono BQ.out.size))
    have ZV:=aA (ZQ.out.below v.2);have LV:=aA (LQ.out.below v.2)
    have TV:=aA (TQ.out.below v.2);obtain⟨u,hu⟩:∃u,v.1=u:=⟨_,rfl⟩
    rw[hu]at BV ZV LV TV⊢;clear hu s1 s2 s3 s4 t1 t2 t3 t4 ne v;obtain⟨q0,q1,q2,q3,q4⟩:=TV.out;obtain⟨⟨l0,l1,l2,l3,l4⟩,lz⟩:=LV.out;go_wp2;go_roundw
    case rel=>
     refine⟨i+1,i+1,by omega,hi1,by go_num,bQ BV.out (by omega) _ _ _ _ _,ZV.out.far (by omega),⟨⟨by go_simp,by go_simp,by go_simp,by go_simp,by go_simp⟩,fun j=>by go_simp⟩,HN⟩
    case measure=>simp[intOf];omega
   ·have dq:decide (tS ⟨(f j).m.x,(f j).m.y,(f j).m.d,(f j).m.e⟩<tS ⟨(f (i+1)).m.x,(f (i+1)).m.y,(f (i+1)).m.d,(f (i+1)).m.e⟩)=false:=decide_eq_false hq;have hord:¬0<M.ord 3 (f (i+1)).m (f j).m:=by rw[←GE HOI.out HOJ.out];exact fun h=>hq (sW.1 h)
    have HN:Hid (aV 3 f (n-1-(i+1)) (i+1+1) j=aX 3 f n):=by show _=_;rw[←HL.out,show n-1-i=(n-1-(i+1))+1 by omega,aV,if_neg hord]
    clear hq HL hord;refine aJ (by kernel_rfl) (by kernel_rfl) ?_;repeat(go_big_quiet_step (first|(go_at_call 115;exact aM (jE _ _ _ _ _ HOI.out))|(go_at_call 115;exact aM (jE _ _ _ _ _ HOJ.out))))
    refine wpQuiet_nil ?_;rintro _ ⟨v,rfl⟩;have BV:=aA (BQ.out.trans (v.2.mono BQ.out.size))
    have ZV:=aA (ZQ.out.below v.2);have LV:=aA (LQ.out.below v.2)
    obtain⟨u,hu⟩:∃u,v.1=u:=⟨_,rfl⟩
    rw[hu]at BV ZV LV⊢;clear hu s1 s2 s3 s4 t1 t2 t3 t4 ne v;go_wp2;go_roundw;case rel=>exact⟨i+1,j,by omega,hj,by go_num,BV.out,ZV.out,LV.out,HN⟩
    case measure=>simp[intOf];omega
  ·have hjl:Hid (f j=t):=by show _=_;rw[HT.out,←HL.out,show n-1-i=0 by omega];rfl
   have hin:¬(i:Int)<((n-1:Nat):Int):=by omega
   obtain⟨⟨z0,z1,z2,z3,z4⟩,fz⟩:=HZ.out;obtain⟨⟨l0,l1,l2,l3,l4⟩,_⟩:=HLE.out;simp only[bG]at z0 z1 z2 z3 z4;rw[hjl.out]at l0 l1 l2 l3 l4;clear HL HZ HLE;go_wp2;refine cB (v:=.tuple #[.agg #[.int .i64 t.c,.int .i64 t.m.x,.int .i64 t.m.y,.int .i64 t.m.d,.int .i64 t.m.e],.bool true]) (by simp[results,Tryz.results24,go_sem, *]) rfl ⟨rfl,?_⟩;exact bQ hB (Nat.le_refl _) _ _ _ _ _
theorem PZ (w:World) (o:Int) (a:Option Addr) (n cap:Nat) (f:Nat→T) (h:Rd w a n cap f):Calls Tryz.prog 24 #[.int .i64 o,.slice a n cap] w fun r w'=>r= .returned (.tuple #[.agg #[.int .i64 (bO o n f).c,.int .i64 (bO o n f).m.x,.int .i64 (bO o n f).m.y,.int .i64 (bO o n f).m.d,.int .i64 (bO o n f).m.e],.bool (bH o n f)])∧Below w.heap.size w w':=by
 by_cases ho:1≤o∧o≤3
 ·obtain⟨o1,o2⟩:=ho;by_cases hn0:n=0
  ·have e1:bH o n f=false:=by simp[bH,hn0]
   rw[wM e1,e1];clear e1;subst hn0;clear h;go_enter Tryz.func24,Tryz.ntmps24;go_wp2_with fail;refine(iB _ _ o1 o2).mono ?_;rintro r w1 ⟨fv,rfl,hb1⟩;obtain⟨hc1,hf1⟩:=aO hb1;have B1:=aA (aB (aC w _) hb1)
   clear hb1;go_wp2;refine cB (v:=.tuple #[.agg #[.int .i64 0,.int .i64 0,.int .i64 0,.int .i64 0,.int .i64 0],.bool false]) (by simp[results,Tryz.results24,go_sem, *]) rfl ⟨rfl,?_⟩;exact bQ B1.out (by omega) _ _ _ _ _
  ·cases hp:aN n f
   ·have e1:bH o n f=false:=by simp[bH,hp]
    rw[wM e1,e1];clear e1;have HR:=aA h
    have hn:(n:Int)≤140737488351232:=by have:=h.2.1;omega
    have hne:((n:Int)==0)=false:=by simp;omega
    clear h hn0;go_enter Tryz.func24,Tryz.ntmps24;go_wp2_with fail;refine(iB _ _ o1 o2).mono ?_;rintro r w1 ⟨fv,rfl,hb1⟩;obtain⟨hc1,hf1⟩:=aO hb1;have B1:=aA (aB (aC w _) hb1)
    have hz1:w.heap.size<w1.heap.size:=by have:=hb1.size;simp at this;omega
    clear hb1;go_wp2_with fail;refine(eD _ _ _ _ f (HR.out.below B1.out)).mono ?_;rw[hp];rintro r w2 ⟨rfl,hb2⟩;obtain⟨hc2,hf2⟩:=aO hb2;have B2:=aA (aB B1.out hb2)
    clear hb2;go_wp2;refine cB (v:=.tuple #[.agg #[.int .i64 0,.int .i64 0,.int .i64 0,.int .i64 0,.int .i64 0],.bool false]) (by simp[results,Tryz.results24,go_sem, *]) rfl ⟨rfl,?_⟩;exact bQ B2.out (by omega) _ _ _ _ _
   ·have ho3:o=1∨o=2∨o=3:=by omega
    rcases ho3 with rfl|rfl|rfl
    ·exact LX w a n cap f h hp (by omega)
    ·exact LY w a n cap f h hp (by omega)
    ·exact LZ w a n cap f h hp (by omega)
 ·have e1:bH o n f=false:=by simp[bH,ho]
  rw[wM e1,e1];have ho':o<1∨3<o:=by omega
  clear e1 ho h;go_enter Tryz.func24,Tryz.ntmps24;go_wp2_with fail;refine(nJ _ _ ho').mono ?_;rintro r w1 ⟨rfl,hb1⟩;obtain⟨hc1,hf1⟩:=aO hb1;have B1:=aA (aB (aC w _) hb1)
  clear hb1;go_wp2;refine cB (v:=.tuple #[.agg #[.int .i64 0,.int .i64 0,.int .i64 0,.int .i64 0,.int .i64 0],.bool false]) (by simp[results,Tryz.results24,go_sem, *]) rfl ⟨rfl,?_⟩;exact bQ B1.out (by omega) _ _ _ _ _
open Go.RowKit Go.Deep Go.Joins
abbrev L5 (b o B:Nat) (v:Value) (m:M) (u:World):Prop:=u.cell? ⟨b,o,none⟩=some v∧u.cell? ⟨B,0,none⟩=some (.int .i64 m.x)∧u.cell? ⟨B,1,none⟩=some (.int .i64 m.y)∧u.cell? ⟨B,2,none⟩=some (.int .i64 m.d)∧u.cell? ⟨B,3,none⟩=some (.int .i64 m.e)
theorem L5.below {b o B:Nat} {v:Value} {m:M} {u u':World} (h:L5 b o B v m u) (hb:Below u.heap.size u u'):L5 b o B v m u':=
 have l1:=cU u ⟨b,o,none⟩ h.1;have l2:=cU u ⟨B,0,none⟩ h.2.1
 ⟨(hb.cell (p:=⟨b,o,none⟩) l1).trans h.1,(hb.cell (p:=⟨B,0,none⟩) l2).trans h.2.1,(hb.cell (p:=⟨B,1,none⟩) l2).trans h.2.2.1,(hb.cell (p:=⟨B,2,none⟩) l2).trans h.2.2.2.1,(hb.cell (p:=⟨B,3,none⟩) l2).trans h.2.2.2.2⟩
def kV (o:Int) (ln:Nat→Nat) (f:Nat→Nat→T) (i:Nat):T:=f i (aX o (f i) (ln i))
theorem aT {n:Nat} {ln:Nat→Nat} {f:Nat→Nat→T} (h:aW n ln f=true):n≤12∧∀i,i<n→ln i≠0∧aN (ln i) (f i)=true:=of_decide_eq_true h
end Go.Proofs.YtncffcaabnjioaaGreat
