/-
  The greatest term of an operator in an order: the program's function.
-/
import Derived.Test.YtelkehjdfcoeiaaGreatNap
set_option maxHeartbeats 8000000
set_option maxRecDepth 100000
namespace Go.Proofs.YtelkehjdfcoeiaaGreat
open Go.RowKit
set_option linter.unusedVariables false
theorem sL {a b:Int}:0<c3 a b↔b<a:=by
 unfold c3;constructor
 ·intro h;split at h
  ·omega
  ·split at h<;>omega
 ·intro h;rw[if_neg (by omega),if_pos h];decide
def C5 (w:World) (b:Nat) (t:T):Prop:=
 w.cell? ⟨b,0,none⟩=some (.int .i64 t.c)∧w.cell? ⟨b,1,none⟩=some (.int .i64 t.m.x)∧w.cell? ⟨b,2,none⟩=some (.int .i64 t.m.y)∧w.cell? ⟨b,3,none⟩=some (.int .i64 t.m.d)∧w.cell? ⟨b,4,none⟩=some (.int .i64 t.m.e)
theorem C5.lt {w:World} {b:Nat} {t:T} (h:C5 w b t):b<w.heap.size:=cQ w _ h.1
theorem C5.below {w w':World} {b:Nat} {t:T} (h:C5 w b t) (hb:Below w.heap.size w w'):C5 w' b t:=RD hb h
theorem C5.box (w:World) (y:TypeId) (t:T):C5 (w.alloc (.cells #[.int .i64 t.c,.int .i64 t.m.x,.int .i64 t.m.y,.int .i64 t.m.d,.int .i64 t.m.e] y)) w.heap.size t:=
 ⟨by rw[World.cell?_alloc_at _ _ _ _ rfl];rfl,by rw[World.cell?_alloc_at _ _ _ _ rfl];rfl,by rw[World.cell?_alloc_at _ _ _ _ rfl];rfl,by rw[World.cell?_alloc_at _ _ _ _ rfl];rfl,by rw[World.cell?_alloc_at _ _ _ _ rfl];rfl⟩
theorem pD {w:World} {B b o:Nat} {v0 v1 v2 v3 v4:Value} (h:b≠B):(((((w.setCell ⟨B,0,none⟩ v0).setCell ⟨B,1,none⟩ v1).setCell ⟨B,2,none⟩ v2).setCell ⟨B,3,none⟩ v3).setCell ⟨B,4,none⟩ v4).cell? ⟨b,o,none⟩=w.cell? ⟨b,o,none⟩:=by refine nC ?_;rw[Below.heap_setCell _ _ _ _ h,Below.heap_setCell _ _ _ _ h,Below.heap_setCell _ _ _ _ h,Below.heap_setCell _ _ _ _ h,Below.heap_setCell _ _ _ _ h]
theorem ZU {w:World} {B b o:Nat} {v0 v1 v2 v3 v4:Value} (h:b≠B):(((((w.setCell ⟨B,0,none⟩ v0).setCell ⟨B,1,none⟩ v1).setCell ⟨B,2,none⟩ v2).setCell ⟨B,3,none⟩ v3).setCell ⟨B,4,none⟩ v4).frozen? ⟨b,o,none⟩=w.frozen? ⟨b,o,none⟩:=by refine World.frozen?_of_block ?_;rw[Below.heap_setCell _ _ _ _ h,Below.heap_setCell _ _ _ _ h,Below.heap_setCell _ _ _ _ h,Below.heap_setCell _ _ _ _ h,Below.heap_setCell _ _ _ _ h]
def bH (w:World) (b:Nat) (t:T):Prop:=C5 w b t∧∀j,w.frozen? ⟨b,j,none⟩=false
theorem bH.below {w w':World} {b:Nat} {t:T} (h:bH w b t) (hb:Below w.heap.size w w'):bH w' b t:=⟨h.1.below hb,fun j=>(hb.frozen (p:=⟨b,j,none⟩) h.1.lt).trans (h.2 j)⟩
theorem bH.box (w:World) (y:TypeId) (t:T):bH (w.alloc (.cells #[.int .i64 t.c,.int .i64 t.m.x,.int .i64 t.m.y,.int .i64 t.m.d,.int .i64 t.m.e] y)) w.heap.size t:=
 ⟨C5.box w y t,fun j=>by rw[World.frozen?_alloc_at _ _ _ _ rfl]⟩
theorem bH.far {w:World} {B b:Nat} {t:T} {v0 v1 v2 v3 v4:Value} (m:bH w b t) (h:b≠B):bH (((((w.setCell ⟨B,0,none⟩ v0).setCell ⟨B,1,none⟩ v1).setCell ⟨B,2,none⟩ v2).setCell ⟨B,3,none⟩ v3).setCell ⟨B,4,none⟩ v4) b t:=
 ⟨⟨(pD h).trans m.1.1,(pD h).trans m.1.2.1,(pD h).trans m.1.2.2.1,(pD h).trans m.1.2.2.2.1,(pD h).trans m.1.2.2.2.2⟩,fun j=>(ZU h).trans (m.2 j)⟩
def aX:T:=⟨0,⟨0,0,0,0⟩⟩
theorem LX (w:World) (a:Option Addr) (n cap:Nat) (f:Nat→T) (h:Rd w a n cap f) (hp:aK n f=true) (hpos:0<n):Calls Tryz.prog 74 #[.int .i64 1,.slice a n cap] w fun r w'=>r= .returned (.tuple #[.agg #[.int .i64 (bF 1 n f).c,.int .i64 (bF 1 n f).m.x,.int .i64 (bF 1 n f).m.y,.int .i64 (bF 1 n f).m.d,.int .i64 (bF 1 n f).m.e],.bool (aY 1 n f)])∧Below w.heap.size w w':=by
 have HR:=aA h;obtain⟨h1,h2,h3⟩:=h;have hn:(n:Int)≤140737488351232:=by omega
 have e1:aY 1 n f=true:=by simp[aY,hp,hpos]
 rw[eI e1,e1];clear e1;have hne:((n:Int)==0)=false:=by simp;omega
 have HM:=aA (rS hp);obtain⟨t,ht⟩:∃t,t=f (aT 1 f n):=⟨_,rfl⟩
 rw[←ht];have HT:=aA ht
 obtain⟨b,off,rfl,hblt,hcl⟩:=h3.resolve_left (by omega);have HCL:=aA hcl
 clear ht h3 hcl;have hn1:(0:Int)<(n:Int):=by omega
 have hn2:(1:Int)≤(n:Int):=by omega
 have hn3:(1:Int)≤(cap:Int):=by omega
 have hn4:(n:Int)≤(cap:Int):=by omega
 have hn5:1≤n:=by omega
 have hn6:1≤cap:=by omega
 by_cases hc1:cap=1
 ·obtain rfl:n=1:=by omega
  subst hc1;have ht0:t=f 0:=HT.out
  subst ht0;go_enter Tryz.func74,Tryz.ntmps74;go_wp2_with fail;refine(oQ _).mono ?_;rintro r w1 ⟨rfl,hb1⟩;have B1:=aA (aB (aC w _) hb1)
  have Z1:=aA ((bH.box w 86 aX).below hb1);clear hb1;go_wp2_with fail;refine(dZ _ _ _ _ f (HR.out.below B1.out)).mono ?_;rw[hp];rintro r w2 ⟨rfl,hb2⟩;have B2:=aA (aB B1.out hb2)
  have Z2:=aA (Z1.out.below hb2);have zw2:w.heap.size<w2.heap.size:=Z2.out.1.lt
  clear hb2 Z1 HR;obtain⟨g0,g1,g2,g3,g4⟩:=(HCL.out 0 hpos).below B2.out hblt;simp only[Nat.zero_mul,Nat.add_zero]at g0 g1 g2 g3 g4;go_wp2;have B3:=aA (B2.out.alloc B2.out.size (.cells #[.int .i64 (f 0).c,.int .i64 (f 0).m.x,.int .i64 (f 0).m.y,.int .i64 (f 0).m.d,.int .i64 (f 0).m.e] 86))
  have Z3:=aA (Z2.out.below (aC w2 (.cells #[.int .i64 (f 0).c,.int .i64 (f 0).m.x,.int .i64 (f 0).m.y,.int .i64 (f 0).m.d,.int .i64 (f 0).m.e] 86)));have L3:=aA (bH.box w2 86 (f 0))
  clear g0 g1 g2 g3 g4 Z2;go_loopw [35] (fun ii wr=>ii= .int .i64 0∧Below w.heap.size w wr∧bH wr w.heap.size aX∧bH wr w2.heap.size (f 0)) (fun _ _=>0);case atStart=>exact⟨rfl,B3.out,Z3.out,L3.out⟩
  case round=>
   obtain⟨rfl,hB,hZ,hL⟩:=hrel;obtain⟨⟨z0,z1,z2,z3,z4⟩,fz⟩:=hZ;obtain⟨⟨l0,l1,l2,l3,l4⟩,_⟩:=hL;simp only[aX]at z0 z1 z2 z3 z4;go_wp2;refine cV (v:=.tuple #[.agg #[.int .i64 (f 0).c,.int .i64 (f 0).m.x,.int .i64 (f 0).m.y,.int .i64 (f 0).m.d,.int .i64 (f 0).m.e],.bool true]) (by simp[results,Tryz.results74,go_sem, *]) rfl ⟨rfl,?_⟩;exact bC hB (Nat.le_refl _) _ _ _ _ _
 go_enter Tryz.func74,Tryz.ntmps74;go_wp2_with fail;refine(oQ _).mono ?_;rintro r w1 ⟨rfl,hb1⟩;have B1:=aA (aB (aC w _) hb1)
 have Z1:=aA ((bH.box w 86 aX).below hb1);clear hb1;go_wp2_with fail;refine(dZ _ _ _ _ f (HR.out.below B1.out)).mono ?_;rw[hp];rintro r w2 ⟨rfl,hb2⟩;have B2:=aA (aB B1.out hb2)
 have Z2:=aA (Z1.out.below hb2);have zw2:w.heap.size<w2.heap.size:=Z2.out.1.lt
 have bw2:b<w2.heap.size:=iZ hblt B2.out.size;clear hb2 Z1 HR;obtain⟨g0,g1,g2,g3,g4⟩:=(HCL.out 0 hpos).below B2.out hblt;simp only[Nat.zero_mul,Nat.add_zero]at g0 g1 g2 g3 g4;go_wp2;have B3:=aA (B2.out.alloc B2.out.size (.cells #[.int .i64 (f 0).c,.int .i64 (f 0).m.x,.int .i64 (f 0).m.y,.int .i64 (f 0).m.d,.int .i64 (f 0).m.e] 86))
 have Z3:=aA (Z2.out.below (aC w2 (.cells #[.int .i64 (f 0).c,.int .i64 (f 0).m.x,.int .i64 (f 0).m.y,.int .i64 (f 0).m.d,.int .i64 (f 0).m.e] 86)));have L3:=aA (bH.box w2 86 (f 0))
 clear g0 g1 g2 g3 g4 Z2;go_loopw [35] (fun ii wr=>∃i j:Nat,i≤n-1∧j<n∧ii= .int .i64 i∧Below w.heap.size w wr∧bH wr w.heap.size aX∧bH wr w2.heap.size (f j)∧Hid (aR 1 f (n-1-i) (i+1) j=aT 1 f n)) (fun ii _=>n-(intOf ii).toNat);case atStart=>exact⟨0,0,Nat.zero_le _,hpos,rfl,B3.out,Z3.out,L3.out,rfl⟩
 case round=>
  obtain⟨i,j,hi,hj,rfl,hB,hZ,hL,HL⟩:=hrel;have HZ:=aA hZ
  have HLE:=aA hL;have zwr:w2.heap.size<wr.heap.size:=hL.1.lt
  clear hZ hL;by_cases hlt:i<n-1
  ·have hi1:i+1<n:=by omega
   have hin:(i:Int)<((n-1:Nat):Int):=by omega
   obtain⟨g0,g1,g2,g3,g4⟩:=(HCL.out (i+1) hi1).below hB hblt;rw[show off+(i+1)*5=off+5+i*5 by omega]at g0 g1 g2 g3 g4;have HOI:=aA (HM.out (i+1) hi1)
   have HOJ:=aA (HM.out j hj);have BQ:=aA (hB.alloc hB.size (.cells #[.int .i64 (f (i+1)).c,.int .i64 (f (i+1)).m.x,.int .i64 (f (i+1)).m.y,.int .i64 (f (i+1)).m.d,.int .i64 (f (i+1)).m.e] 86))
   have ZQ:=aA (HZ.out.below (aC wr (.cells #[.int .i64 (f (i+1)).c,.int .i64 (f (i+1)).m.x,.int .i64 (f (i+1)).m.y,.int .i64 (f (i+1)).m.d,.int .i64 (f (i+1)).m.e] 86)));have LQ:=aA (HLE.out.below (aC wr (.cells #[.int .i64 (f (i+1)).c,.int .i64 (f (i+1)).m.x,.int .i64 (f (i+1)).m.y,.int .i64 (f (i+1)).m.d,.int .i64 (f (i+1)).m.e] 86)))
   have TQ:=aA (C5.box wr 86 (f (i+1)));go_wp2_with fail;generalize(wr.alloc (.cells #[.int .i64 (f (i+1)).c,.int .i64 (f (i+1)).m.x,.int .i64 (f (i+1)).m.y,.int .i64 (f (i+1)).m.d,.int .i64 (f (i+1)).m.e] 86))=wq at BQ ZQ LQ TQ⊢;clear g0 g1 g2 g3 g4 HZ HLE;have ne:=bR.there wq
   have s1:∀u:bR wq,u.1.cell? ⟨wr.heap.size,1,none⟩=some (.int .i64 (f (i+1)).m.x):=fun u=>(u.cell TQ.out.lt).trans TQ.out.2.1;have s2:∀u:bR wq,u.1.cell? ⟨wr.heap.size,2,none⟩=some (.int .i64 (f (i+1)).m.y):=fun u=>(u.cell TQ.out.lt).trans TQ.out.2.2.1
   have s3:∀u:bR wq,u.1.cell? ⟨wr.heap.size,3,none⟩=some (.int .i64 (f (i+1)).m.d):=fun u=>(u.cell TQ.out.lt).trans TQ.out.2.2.2.1;have s4:∀u:bR wq,u.1.cell? ⟨wr.heap.size,4,none⟩=some (.int .i64 (f (i+1)).m.e):=fun u=>(u.cell TQ.out.lt).trans TQ.out.2.2.2.2
   have t1:∀u:bR wq,u.1.cell? ⟨w2.heap.size,1,none⟩=some (.int .i64 (f j).m.x):=fun u=>(u.cell LQ.out.1.lt).trans LQ.out.1.2.1;have t2:∀u:bR wq,u.1.cell? ⟨w2.heap.size,2,none⟩=some (.int .i64 (f j).m.y):=fun u=>(u.cell LQ.out.1.lt).trans LQ.out.1.2.2.1
   have t3:∀u:bR wq,u.1.cell? ⟨w2.heap.size,3,none⟩=some (.int .i64 (f j).m.d):=fun u=>(u.cell LQ.out.1.lt).trans LQ.out.1.2.2.2.1;have t4:∀u:bR wq,u.1.cell? ⟨w2.heap.size,4,none⟩=some (.int .i64 (f j).m.e):=fun u=>(u.cell LQ.out.1.lt).trans LQ.out.1.2.2.2.2
   by_cases hq:dI (f j).m<dI (f (i+1)).m
   ·have dq:decide (dI ⟨(f j).m.x,(f j).m.y,(f j).m.d,(f j).m.e⟩<dI ⟨(f (i+1)).m.x,(f (i+1)).m.y,(f (i+1)).m.d,(f (i+1)).m.e⟩)=true:=decide_eq_true hq;have hord:0<M.ord 1 (f (i+1)).m (f j).m:=by rw[←vZ HOI.out HOJ.out];exact sL.2 hq
    have HN:Hid (aR 1 f (n-1-(i+1)) (i+1+1) (i+1)=aT 1 f n):=by show _=_;rw[←HL.out,show n-1-i=(n-1-(i+1))+1 by omega,aR,if_pos hord]
    clear hq HL hord;refine aF (by kernel_rfl) (by kernel_rfl) ?_;repeat(go_big_quiet_step (first|(go_at_call 93;exact aG (fJ _ _ _ _ _ HOI.out))|(go_at_call 93;exact aG (fJ _ _ _ _ _ HOJ.out))))
    refine wpQuiet_nil ?_;rintro _ ⟨v,rfl⟩;have BV:=aA (BQ.out.trans (v.2.mono BQ.out.size))
    have ZV:=aA (ZQ.out.below v.2);have LV:=aA (LQ.out.below v.2)
    have TV:=aA (TQ.out.below v.2);obtain⟨u,hu⟩:∃u,v.1=u:=⟨_,rfl⟩
    rw[hu]at BV ZV LV TV⊢;clear hu s1 s2 s3 s4 t1 t2 t3 t4 ne v;obtain⟨q0,q1,q2,q3,q4⟩:=TV.out;obtain⟨⟨l0,l1,l2,l3,l4⟩,lz⟩:=LV.out;go_wp2;go_roundw
    case rel=>
     refine⟨i+1,i+1,by omega,hi1,by go_num,bC BV.out (by omega) _ _ _ _ _,ZV.out.far (by omega),⟨⟨by go_simp,by go_simp,by go_simp,by go_simp,by go_simp⟩,fun j=>by go_simp⟩,HN⟩
    case measure=>simp[intOf];omega
   ·have dq:decide (dI ⟨(f j).m.x,(f j).m.y,(f j).m.d,(f j).m.e⟩<dI ⟨(f (i+1)).m.x,(f (i+1)).m.y,(f (i+1)).m.d,(f (i+1)).m.e⟩)=false:=decide_eq_false hq;have hord:¬0<M.ord 1 (f (i+1)).m (f j).m:=by rw[←vZ HOI.out HOJ.out];exact fun h=>hq (sL.1 h)
    have HN:Hid (aR 1 f (n-1-(i+1)) (i+1+1) j=aT 1 f n):=by show _=_;rw[←HL.out,show n-1-i=(n-1-(i+1))+1 by omega,aR,if_neg hord]
    clear hq HL hord;refine aF (by kernel_rfl) (by kernel_rfl) ?_;repeat(go_big_quiet_step (first|(go_at_call 93;exact aG (fJ _ _ _ _ _ HOI.out))|(go_at_call 93;exact aG (fJ _ _ _ _ _ HOJ.out))))
    refine wpQuiet_nil ?_;rintro _ ⟨v,rfl⟩;have BV:=aA (BQ.out.trans (v.2.mono BQ.out.size))
    have ZV:=aA (ZQ.out.below v.2);have LV:=aA (LQ.out.below v.2)
    obtain⟨u,hu⟩:∃u,v.1=u:=⟨_,rfl⟩
    rw[hu]at BV ZV LV⊢;clear hu s1 s2 s3 s4 t1 t2 t3 t4 ne v;go_wp2;go_roundw;case rel=>exact⟨i+1,j,by omega,hj,by go_num,BV.out,ZV.out,LV.out,HN⟩
    case measure=>simp[intOf];omega
  ·have hjl:Hid (f j=t):=by show _=_;rw[HT.out,←HL.out,show n-1-i=0 by omega];rfl
   have hin:¬(i:Int)<((n-1:Nat):Int):=by omega
   obtain⟨⟨z0,z1,z2,z3,z4⟩,fz⟩:=HZ.out;obtain⟨⟨l0,l1,l2,l3,l4⟩,_⟩:=HLE.out;simp only[aX]at z0 z1 z2 z3 z4;rw[hjl.out]at l0 l1 l2 l3 l4;clear HL HZ HLE;go_wp2;refine cV (v:=.tuple #[.agg #[.int .i64 t.c,.int .i64 t.m.x,.int .i64 t.m.y,.int .i64 t.m.d,.int .i64 t.m.e],.bool true]) (by simp[results,Tryz.results74,go_sem, *]) rfl ⟨rfl,?_⟩;exact bC hB (Nat.le_refl _) _ _ _ _ _
theorem LY (w:World) (a:Option Addr) (n cap:Nat) (f:Nat→T) (h:Rd w a n cap f) (hp:aK n f=true) (hpos:0<n):Calls Tryz.prog 74 #[.int .i64 2,.slice a n cap] w fun r w'=>r= .returned (.tuple #[.agg #[.int .i64 (bF 2 n f).c,.int .i64 (bF 2 n f).m.x,.int .i64 (bF 2 n f).m.y,.int .i64 (bF 2 n f).m.d,.int .i64 (bF 2 n f).m.e],.bool (aY 2 n f)])∧Below w.heap.size w w':=by
 have HR:=aA h;obtain⟨h1,h2,h3⟩:=h;have hn:(n:Int)≤140737488351232:=by omega
 have e1:aY 2 n f=true:=by simp[aY,hp,hpos]
 rw[eI e1,e1];clear e1;have hne:((n:Int)==0)=false:=by simp;omega
 have HM:=aA (rS hp);obtain⟨t,ht⟩:∃t,t=f (aT 2 f n):=⟨_,rfl⟩
 rw[←ht];have HT:=aA ht
 obtain⟨b,off,rfl,hblt,hcl⟩:=h3.resolve_left (by omega);have HCL:=aA hcl
 clear ht h3 hcl;have hn1:(0:Int)<(n:Int):=by omega
 have hn2:(1:Int)≤(n:Int):=by omega
 have hn3:(1:Int)≤(cap:Int):=by omega
 have hn4:(n:Int)≤(cap:Int):=by omega
 have hn5:1≤n:=by omega
 have hn6:1≤cap:=by omega
 by_cases hc1:cap=1
 ·obtain rfl:n=1:=by omega
  subst hc1;have ht0:t=f 0:=HT.out
  subst ht0;go_enter Tryz.func74,Tryz.ntmps74;go_wp2_with fail;refine(oR _).mono ?_;rintro r w1 ⟨rfl,hb1⟩;have B1:=aA (aB (aC w _) hb1)
  have Z1:=aA ((bH.box w 86 aX).below hb1);clear hb1;go_wp2_with fail;refine(dZ _ _ _ _ f (HR.out.below B1.out)).mono ?_;rw[hp];rintro r w2 ⟨rfl,hb2⟩;have B2:=aA (aB B1.out hb2)
  have Z2:=aA (Z1.out.below hb2);have zw2:w.heap.size<w2.heap.size:=Z2.out.1.lt
  clear hb2 Z1 HR;obtain⟨g0,g1,g2,g3,g4⟩:=(HCL.out 0 hpos).below B2.out hblt;simp only[Nat.zero_mul,Nat.add_zero]at g0 g1 g2 g3 g4;go_wp2;have B3:=aA (B2.out.alloc B2.out.size (.cells #[.int .i64 (f 0).c,.int .i64 (f 0).m.x,.int .i64 (f 0).m.y,.int .i64 (f 0).m.d,.int .i64 (f 0).m.e] 86))
  have Z3:=aA (Z2.out.below (aC w2 (.cells #[.int .i64 (f 0).c,.int .i64 (f 0).m.x,.int .i64 (f 0).m.y,.int .i64 (f 0).m.d,.int .i64 (f 0).m.e] 86)));have L3:=aA (bH.box w2 86 (f 0))
  clear g0 g1 g2 g3 g4 Z2;go_loopw [35] (fun ii wr=>ii= .int .i64 0∧Below w.heap.size w wr∧bH wr w.heap.size aX∧bH wr w2.heap.size (f 0)) (fun _ _=>0);case atStart=>exact⟨rfl,B3.out,Z3.out,L3.out⟩
  case round=>
   obtain⟨rfl,hB,hZ,hL⟩:=hrel;obtain⟨⟨z0,z1,z2,z3,z4⟩,fz⟩:=hZ;obtain⟨⟨l0,l1,l2,l3,l4⟩,_⟩:=hL;simp only[aX]at z0 z1 z2 z3 z4;go_wp2;refine cV (v:=.tuple #[.agg #[.int .i64 (f 0).c,.int .i64 (f 0).m.x,.int .i64 (f 0).m.y,.int .i64 (f 0).m.d,.int .i64 (f 0).m.e],.bool true]) (by simp[results,Tryz.results74,go_sem, *]) rfl ⟨rfl,?_⟩;exact bC hB (Nat.le_refl _) _ _ _ _ _
 go_enter Tryz.func74,Tryz.ntmps74;go_wp2_with fail;refine(oR _).mono ?_;rintro r w1 ⟨rfl,hb1⟩;have B1:=aA (aB (aC w _) hb1)
 have Z1:=aA ((bH.box w 86 aX).below hb1);clear hb1;go_wp2_with fail;refine(dZ _ _ _ _ f (HR.out.below B1.out)).mono ?_;rw[hp];rintro r w2 ⟨rfl,hb2⟩;have B2:=aA (aB B1.out hb2)
 have Z2:=aA (Z1.out.below hb2);have zw2:w.heap.size<w2.heap.size:=Z2.out.1.lt
 have bw2:b<w2.heap.size:=iZ hblt B2.out.size;clear hb2 Z1 HR;obtain⟨g0,g1,g2,g3,g4⟩:=(HCL.out 0 hpos).below B2.out hblt;simp only[Nat.zero_mul,Nat.add_zero]at g0 g1 g2 g3 g4;go_wp2;have B3:=aA (B2.out.alloc B2.out.size (.cells #[.int .i64 (f 0).c,.int .i64 (f 0).m.x,.int .i64 (f 0).m.y,.int .i64 (f 0).m.d,.int .i64 (f 0).m.e] 86))
 have Z3:=aA (Z2.out.below (aC w2 (.cells #[.int .i64 (f 0).c,.int .i64 (f 0).m.x,.int .i64 (f 0).m.y,.int .i64 (f 0).m.d,.int .i64 (f 0).m.e] 86)));have L3:=aA (bH.box w2 86 (f 0))
 clear g0 g1 g2 g3 g4 Z2;go_loopw [35] (fun ii wr=>∃i j:Nat,i≤n-1∧j<n∧ii= .int .i64 i∧Below w.heap.size w wr∧bH wr w.heap.size aX∧bH wr w2.heap.size (f j)∧Hid (aR 2 f (n-1-i) (i+1) j=aT 2 f n)) (fun ii _=>n-(intOf ii).toNat);case atStart=>exact⟨0,0,Nat.zero_le _,hpos,rfl,B3.out,Z3.out,L3.out,rfl⟩
 case round=>
  obtain⟨i,j,hi,hj,rfl,hB,hZ,hL,HL⟩:=hrel;have HZ:=aA hZ
  have HLE:=aA hL;have zwr:w2.heap.size<wr.heap.size:=hL.1.lt
  clear hZ hL;by_cases hlt:i<n-1
  ·have hi1:i+1<n:=by omega
   have hin:(i:Int)<((n-1:Nat):Int):=by omega
   obtain⟨g0,g1,g2,g3,g4⟩:=(HCL.out (i+1) hi1).below hB hblt;rw[show off+(i+1)*5=off+5+i*5 by omega]at g0 g1 g2 g3 g4;have HOI:=aA (HM.out (i+1) hi1)
   have HOJ:=aA (HM.out j hj);have BQ:=aA (hB.alloc hB.size (.cells #[.int .i64 (f (i+1)).c,.int .i64 (f (i+1)).m.x,.int .i64 (f (i+1)).m.y,.int .i64 (f (i+1)).m.d,.int .i64 (f (i+1)).m.e] 86))
   have ZQ:=aA (HZ.out.below (aC wr (.cells #[.int .i64 (f (i+1)).c,.int .i64 (f (i+1)).m.x,.int .i64 (f (i+1)).m.y,.int .i64 (f (i+1)).m.d,.int .i64 (f (i+1)).m.e] 86)));have LQ:=aA (HLE.out.below (aC wr (.cells #[.int .i64 (f (i+1)).c,.int .i64 (f (i+1)).m.x,.int .i64 (f (i+1)).m.y,.int .i64 (f (i+1)).m.d,.int .i64 (f (i+1)).m.e] 86)))
   have TQ:=aA (C5.box wr 86 (f (i+1)));go_wp2_with fail;generalize(wr.alloc (.cells #[.int .i64 (f (i+1)).c,.int .i64 (f (i+1)).m.x,.int .i64 (f (i+1)).m.y,.int .i64 (f (i+1)).m.d,.int .i64 (f (i+1)).m.e] 86))=wq at BQ ZQ LQ TQ⊢;clear g0 g1 g2 g3 g4 HZ HLE;have ne:=bR.there wq
   have s1:∀u:bR wq,u.1.cell? ⟨wr.heap.size,1,none⟩=some (.int .i64 (f (i+1)).m.x):=fun u=>(u.cell TQ.out.lt).trans TQ.out.2.1;have s2:∀u:bR wq,u.1.cell? ⟨wr.heap.size,2,none⟩=some (.int .i64 (f (i+1)).m.y):=fun u=>(u.cell TQ.out.lt).trans TQ.out.2.2.1
   have s3:∀u:bR wq,u.1.cell? ⟨wr.heap.size,3,none⟩=some (.int .i64 (f (i+1)).m.d):=fun u=>(u.cell TQ.out.lt).trans TQ.out.2.2.2.1;have s4:∀u:bR wq,u.1.cell? ⟨wr.heap.size,4,none⟩=some (.int .i64 (f (i+1)).m.e):=fun u=>(u.cell TQ.out.lt).trans TQ.out.2.2.2.2
   have t1:∀u:bR wq,u.1.cell? ⟨w2.heap.size,1,none⟩=some (.int .i64 (f j).m.x):=fun u=>(u.cell LQ.out.1.lt).trans LQ.out.1.2.1;have t2:∀u:bR wq,u.1.cell? ⟨w2.heap.size,2,none⟩=some (.int .i64 (f j).m.y):=fun u=>(u.cell LQ.out.1.lt).trans LQ.out.1.2.2.1
   have t3:∀u:bR wq,u.1.cell? ⟨w2.heap.size,3,none⟩=some (.int .i64 (f j).m.d):=fun u=>(u.cell LQ.out.1.lt).trans LQ.out.1.2.2.2.1;have t4:∀u:bR wq,u.1.cell? ⟨w2.heap.size,4,none⟩=some (.int .i64 (f j).m.e):=fun u=>(u.cell LQ.out.1.lt).trans LQ.out.1.2.2.2.2
   by_cases hq:fF (f j).m<fF (f (i+1)).m
   ·have dq:decide (fF ⟨(f j).m.x,(f j).m.y,(f j).m.d,(f j).m.e⟩<fF ⟨(f (i+1)).m.x,(f (i+1)).m.y,(f (i+1)).m.d,(f (i+1)).m.e⟩)=true:=decide_eq_true hq;have hord:0<M.ord 2 (f (i+1)).m (f j).m:=by rw[←GL HOI.out HOJ.out];exact sL.2 hq
    have HN:Hid (aR 2 f (n-1-(i+1)) (i+1+1) (i+1)=aT 2 f n):=by show _=_;rw[←HL.out,show n-1-i=(n-1-(i+1))+1 by omega,aR,if_pos hord]
    clear hq HL hord;refine aF (by kernel_rfl) (by kernel_rfl) ?_;repeat(go_big_quiet_step (first|(go_at_call 122;exact aG (gN _ _ _ _ _ HOI.out))|(go_at_call 122;exact aG (gN _ _ _ _ _ HOJ.out))))
    refine wpQuiet_nil ?_;rintro _ ⟨v,rfl⟩;have BV:=aA (BQ.out.trans (v.2.mono BQ.out.size))
    have ZV:=aA (ZQ.out.below v.2);have LV:=aA (LQ.out.below v.2)
    have TV:=aA (TQ.out.below v.2);obtain⟨u,hu⟩:∃u,v.1=u:=⟨_,rfl⟩
    rw[hu]at BV ZV LV TV⊢;clear hu s1 s2 s3 s4 t1 t2 t3 t4 ne v;obtain⟨q0,q1,q2,q3,q4⟩:=TV.out;obtain⟨⟨l0,l1,l2,l3,l4⟩,lz⟩:=LV.out;go_wp2;go_roundw
    case rel=>
     refine⟨i+1,i+1,by omega,hi1,by go_num,bC BV.out (by omega) _ _ _ _ _,ZV.out.far (by omega),⟨⟨by go_simp,by go_simp,by go_simp,by go_simp,by go_simp⟩,fun j=>by go_simp⟩,HN⟩
    case measure=>simp[intOf];omega
   ·have dq:decide (fF ⟨(f j).m.x,(f j).m.y,(f j).m.d,(f j).m.e⟩<fF ⟨(f (i+1)).m.x,(f (i+1)).m.y,(f (i+1)).m.d,(f (i+1)).m.e⟩)=false:=decide_eq_false hq;have hord:¬0<M.ord 2 (f (i+1)).m (f j).m:=by rw[←GL HOI.out HOJ.out];exact fun h=>hq (sL.1 h)
    have HN:Hid (aR 2 f (n-1-(i+1)) (i+1+1) j=aT 2 f n):=by show _=_;rw[←HL.out,show n-1-i=(n-1-(i+1))+1 by omega,aR,if_neg hord]
    clear hq HL hord;refine aF (by kernel_rfl) (by kernel_rfl) ?_;repeat(go_big_quiet_step (first|(go_at_call 122;exact aG (gN _ _ _ _ _ HOI.out))|(go_at_call 122;exact aG (gN _ _ _ _ _ HOJ.out))))
    refine wpQuiet_nil ?_;rintro _ ⟨v,rfl⟩;have BV:=aA (BQ.out.trans (v.2.mono BQ.out.size))
    have ZV:=aA (ZQ.out.below v.2);have LV:=aA (LQ.out.below v.2)
    obtain⟨u,hu⟩:∃u,v.1=u:=⟨_,rfl⟩
    rw[hu]at BV ZV LV⊢;clear hu s1 s2 s3 s4 t1 t2 t3 t4 ne v;go_wp2;go_roundw;case rel=>exact⟨i+1,j,by omega,hj,by go_num,BV.out,ZV.out,LV.out,HN⟩
    case measure=>simp[intOf];omega
  ·have hjl:Hid (f j=t):=by show _=_;rw[HT.out,←HL.out,show n-1-i=0 by omega];rfl
   have hin:¬(i:Int)<((n-1:Nat):Int):=by omega
   obtain⟨⟨z0,z1,z2,z3,z4⟩,fz⟩:=HZ.out;obtain⟨⟨l0,l1,l2,l3,l4⟩,_⟩:=HLE.out;simp only[aX]at z0 z1 z2 z3 z4;rw[hjl.out]at l0 l1 l2 l3 l4;clear HL HZ HLE;go_wp2;refine cV (v:=.tuple #[.agg #[.int .i64 t.c,.int .i64 t.m.x,.int .i64 t.m.y,.int .i64 t.m.d,.int .i64 t.m.e],.bool true]) (by simp[results,Tryz.results74,go_sem, *]) rfl ⟨rfl,?_⟩;exact bC hB (Nat.le_refl _) _ _ _ _ _
theorem LZ (w:World) (a:Option Addr) (n cap:Nat) (f:Nat→T) (h:Rd w a n cap f) (hp:aK n f=true) (hpos:0<n):Calls Tryz.prog 74 #[.int .i64 3,.slice a n cap] w fun r w'=>r= .returned (.tuple #[.agg #[.int .i64 (bF 3 n f).c,.int .i64 (bF 3 n f).m.x,.int .i64 (bF 3 n f).m.y,.int .i64 (bF 3 n f).m.d,.int .i64 (bF 3 n f).m.e],.bool (aY 3 n f)])∧Below w.heap.size w w':=by
 have HR:=aA h;obtain⟨h1,h2,h3⟩:=h;have hn:(n:Int)≤140737488351232:=by omega
 have e1:aY 3 n f=true:=by simp[aY,hp,hpos]
 rw[eI e1,e1];clear e1;have hne:((n:Int)==0)=false:=by simp;omega
 have HM:=aA (rS hp);obtain⟨t,ht⟩:∃t,t=f (aT 3 f n):=⟨_,rfl⟩
 rw[←ht];have HT:=aA ht
 obtain⟨b,off,rfl,hblt,hcl⟩:=h3.resolve_left (by omega);have HCL:=aA hcl
 clear ht h3 hcl;have hn1:(0:Int)<(n:Int):=by omega
 have hn2:(1:Int)≤(n:Int):=by omega
 have hn3:(1:Int)≤(cap:Int):=by omega
 have hn4:(n:Int)≤(cap:Int):=by omega
 have hn5:1≤n:=by omega
 have hn6:1≤cap:=by omega
 by_cases hc1:cap=1
 ·obtain rfl:n=1:=by omega
  subst hc1;have ht0:t=f 0:=HT.out
  subst ht0;go_enter Tryz.func74,Tryz.ntmps74;go_wp2_with fail;refine(oS _).mono ?_;rintro r w1 ⟨rfl,hb1⟩;have B1:=aA (aB (aC w _) hb1)
  have Z1:=aA ((bH.box w 86 aX).below hb1);clear hb1;go_wp2_with fail;refine(dZ _ _ _ _ f (HR.out.below B1.out)).mono ?_;rw[hp];rintro r w2 ⟨rfl,hb2⟩;have B2:=aA (aB B1.out hb2)
  have Z2:=aA (Z1.out.below hb2);have zw2:w.heap.size<w2.heap.size:=Z2.out.1.lt
  clear hb2 Z1 HR;obtain⟨g0,g1,g2,g3,g4⟩:=(HCL.out 0 hpos).below B2.out hblt;simp only[Nat.zero_mul,Nat.add_zero]at g0 g1 g2 g3 g4;go_wp2;have B3:=aA (B2.out.alloc B2.out.size (.cells #[.int .i64 (f 0).c,.int .i64 (f 0).m.x,.int .i64 (f 0).m.y,.int .i64 (f 0).m.d,.int .i64 (f 0).m.e] 86))
  have Z3:=aA (Z2.out.below (aC w2 (.cells #[.int .i64 (f 0).c,.int .i64 (f 0).m.x,.int .i64 (f 0).m.y,.int .i64 (f 0).m.d,.int .i64 (f 0).m.e] 86)));have L3:=aA (bH.box w2 86 (f 0))
  clear g0 g1 g2 g3 g4 Z2;go_loopw [35] (fun ii wr=>ii= .int .i64 0∧Below w.heap.size w wr∧bH wr w.heap.size aX∧bH wr w2.heap.size (f 0)) (fun _ _=>0);case atStart=>exact⟨rfl,B3.out,Z3.out,L3.out⟩
  case round=>
   obtain⟨rfl,hB,hZ,hL⟩:=hrel;obtain⟨⟨z0,z1,z2,z3,z4⟩,fz⟩:=hZ;obtain⟨⟨l0,l1,l2,l3,l4⟩,_⟩:=hL;simp only[aX]at z0 z1 z2 z3 z4;go_wp2;refine cV (v:=.tuple #[.agg #[.int .i64 (f 0).c,.int .i64 (f 0).m.x,.int .i64 (f 0).m.y,.int .i64 (f 0).m.d,.int .i64 (f 0).m.e],.bool true]) (by simp[results,Tryz.results74,go_sem, *]) rfl ⟨rfl,?_⟩;exact bC hB (Nat.le_refl _) _ _ _ _ _
 go_enter Tryz.func74,Tryz.ntmps74;go_wp2_with fail;refine(oS _).mono ?_;rintro r w1 ⟨rfl,hb1⟩;have B1:=aA (aB (aC w _) hb1)
 have Z1:=aA ((bH.box w 86 aX).below hb1);clear hb1;go_wp2_with fail;refine(dZ _ _ _ _ f (HR.out.below B1.out)).mono ?_;rw[hp];rintro r w2 ⟨rfl,hb2⟩;have B2:=aA (aB B1.out hb2)
 have Z2:=aA (Z1.out.below hb2);have zw2:w.heap.size<w2.heap.size:=Z2.out.1.lt
 have bw2:b<w2.heap.size:=iZ hblt B2.out.size;clear hb2 Z1 HR;obtain⟨g0,g1,g2,g3,g4⟩:=(HCL.out 0 hpos).below B2.out hblt;simp only[Nat.zero_mul,Nat.add_zero]at g0 g1 g2 g3 g4;go_wp2;have B3:=aA (B2.out.alloc B2.out.size (.cells #[.int .i64 (f 0).c,.int .i64 (f 0).m.x,.int .i64 (f 0).m.y,.int .i64 (f 0).m.d,.int .i64 (f 0).m.e] 86))
 have Z3:=aA (Z2.out.below (aC w2 (.cells #[.int .i64 (f 0).c,.int .i64 (f 0).m.x,.int .i64 (f 0).m.y,.int .i64 (f 0).m.d,.int .i64 (f 0).m.e] 86)));have L3:=aA (bH.box w2 86 (f 0))
 clear g0 g1 g2 g3 g4 Z2;go_loopw [35] (fun ii wr=>∃i j:Nat,i≤n-1∧j<n∧ii= .int .i64 i∧Below w.heap.size w wr∧bH wr w.heap.size aX∧bH wr w2.heap.size (f j)∧Hid (aR 3 f (n-1-i) (i+1) j=aT 3 f n)) (fun ii _=>n-(intOf ii).toNat);case atStart=>exact⟨0,0,Nat.zero_le _,hpos,rfl,B3.out,Z3.out,L3.out,rfl⟩
 case round=>
  obtain⟨i,j,hi,hj,rfl,hB,hZ,hL,HL⟩:=hrel;have HZ:=aA hZ
  have HLE:=aA hL;have zwr:w2.heap.size<wr.heap.size:=hL.1.lt
  clear hZ hL;by_cases hlt:i<n-1
  ·have hi1:i+1<n:=by omega
   have hin:(i:Int)<((n-1:Nat):Int):=by omega
   obtain⟨g0,g1,g2,g3,g4⟩:=(HCL.out (i+1) hi1).below hB hblt;rw[show off+(i+1)*5=off+5+i*5 by omega]at g0 g1 g2 g3 g4;have HOI:=aA (HM.out (i+1) hi1)
   have HOJ:=aA (HM.out j hj);have BQ:=aA (hB.alloc hB.size (.cells #[.int .i64 (f (i+1)).c,.int .i64 (f (i+1)).m.x,.int .i64 (f (i+1)).m.y,.int .i64 (f (i+1)).m.d,.int .i64 (f (i+1)).m.e] 86))
   have ZQ:=aA (HZ.out.below (aC wr (.cells #[.int .i64 (f (i+1)).c,.int .i64 (f (i+1)).m.x,.int .i64 (f (i+1)).m.y,.int .i64 (f (i+1)).m.d,.int .i64 (f (i+1)).m.e] 86)));have LQ:=aA (HLE.out.below (aC wr (.cells #[.int .i64 (f (i+1)).c,.int .i64 (f (i+1)).m.x,.int .i64 (f (i+1)).m.y,.int .i64 (f (i+1)).m.d,.int .i64 (f (i+1)).m.e] 86)))
   have TQ:=aA (C5.box wr 86 (f (i+1)));go_wp2_with fail;generalize(wr.alloc (.cells #[.int .i64 (f (i+1)).c,.int .i64 (f (i+1)).m.x,.int .i64 (f (i+1)).m.y,.int .i64 (f (i+1)).m.d,.int .i64 (f (i+1)).m.e] 86))=wq at BQ ZQ LQ TQ⊢;clear g0 g1 g2 g3 g4 HZ HLE;have ne:=bR.there wq
   have s1:∀u:bR wq,u.1.cell? ⟨wr.heap.size,1,none⟩=some (.int .i64 (f (i+1)).m.x):=fun u=>(u.cell TQ.out.lt).trans TQ.out.2.1;have s2:∀u:bR wq,u.1.cell? ⟨wr.heap.size,2,none⟩=some (.int .i64 (f (i+1)).m.y):=fun u=>(u.cell TQ.out.lt).trans TQ.out.2.2.1
   have s3:∀u:bR wq,u.1.cell? ⟨wr.heap.size,3,none⟩=some (.int .i64 (f (i+1)).m.d):=fun u=>(u.cell TQ.out.lt).trans TQ.out.2.2.2.1;have s4:∀u:bR wq,u.1.cell? ⟨wr.heap.size,4,none⟩=some (.int .i64 (f (i+1)).m.e):=fun u=>(u.cell TQ.out.lt).trans TQ.out.2.2.2.2
   have t1:∀u:bR wq,u.1.cell? ⟨w2.heap.size,1,none⟩=some (.int .i64 (f j).m.x):=fun u=>(u.cell LQ.out.1.lt).trans LQ.out.1.2.1;have t2:∀u:bR wq,u.1.cell? ⟨w2.heap.size,2,none⟩=some (.int .i64 (f j).m.y):=fun u=>(u.cell LQ.out.1.lt).trans LQ.out.1.2.2.1
   have t3:∀u:bR wq,u.1.cell? ⟨w2.heap.size,3,none⟩=some (.int .i64 (f j).m.d):=fun u=>(u.cell LQ.out.1.lt).trans LQ.out.1.2.2.2.1;have t4:∀u:bR wq,u.1.cell? ⟨w2.heap.size,4,none⟩=some (.int .i64 (f j).m.e):=fun u=>(u.cell LQ.out.1.lt).trans LQ.out.1.2.2.2.2
   by_cases hq:tE (f j).m<tE (f (i+1)).m
   ·have dq:decide (tE ⟨(f j).m.x,(f j).m.y,(f j).m.d,(f j).m.e⟩<tE ⟨(f (i+1)).m.x,(f (i+1)).m.y,(f (i+1)).m.d,(f (i+1)).m.e⟩)=true:=decide_eq_true hq;have hord:0<M.ord 3 (f (i+1)).m (f j).m:=by rw[←GK HOI.out HOJ.out];exact sL.2 hq
    have HN:Hid (aR 3 f (n-1-(i+1)) (i+1+1) (i+1)=aT 3 f n):=by show _=_;rw[←HL.out,show n-1-i=(n-1-(i+1))+1 by omega,aR,if_pos hord]
    clear hq HL hord;refine aF (by kernel_rfl) (by kernel_rfl) ?_;repeat(go_big_quiet_step (first|(go_at_call 123;exact aG (iX _ _ _ _ _ HOI.out))|(go_at_call 123;exact aG (iX _ _ _ _ _ HOJ.out))))
    refine wpQuiet_nil ?_;rintro _ ⟨v,rfl⟩;have BV:=aA (BQ.out.trans (v.2.mono BQ.out.size))
    have ZV:=aA (ZQ.out.below v.2);have LV:=aA (LQ.out.below v.2)
    have TV:=aA (TQ.out.below v.2);obtain⟨u,hu⟩:∃u,v.1=u:=⟨_,rfl⟩
    rw[hu]at BV ZV LV TV⊢;clear hu s1 s2 s3 s4 t1 t2 t3 t4 ne v;obtain⟨q0,q1,q2,q3,q4⟩:=TV.out;obtain⟨⟨l0,l1,l2,l3,l4⟩,lz⟩:=LV.out;go_wp2;go_roundw
    case rel=>
     refine⟨i+1,i+1,by omega,hi1,by go_num,bC BV.out (by omega) _ _ _ _ _,ZV.out.far (by omega),⟨⟨by go_simp,by go_simp,by go_simp,by go_simp,by go_simp⟩,fun j=>by go_simp⟩,HN⟩
    case measure=>simp[intOf];omega
   ·have dq:decide (tE ⟨(f j).m.x,(f j).m.y,(f j).m.d,(f j).m.e⟩<tE ⟨(f (i+1)).m.x,(f (i+1)).m.y,(f (i+1)).m.d,(f (i+1)).m.e⟩)=false:=decide_eq_false hq;have hord:¬0<M.ord 3 (f (i+1)).m (f j).m:=by rw[←GK HOI.out HOJ.out];exact fun h=>hq (sL.1 h)
    have HN:Hid (aR 3 f (n-1-(i+1)) (i+1+1) j=aT 3 f n):=by show _=_;rw[←HL.out,show n-1-i=(n-1-(i+1))+1 by omega,aR,if_neg hord]
    clear hq HL hord;refine aF (by kernel_rfl) (by kernel_rfl) ?_;repeat(go_big_quiet_step (first|(go_at_call 123;exact aG (iX _ _ _ _ _ HOI.out))|(go_at_call 123;exact aG (iX _ _ _ _ _ HOJ.out))))
    refine wpQuiet_nil ?_;rintro _ ⟨v,rfl⟩;have BV:=aA (BQ.out.trans (v.2.mono BQ.out.size))
    have ZV:=aA (ZQ.out.below v.2);have LV:=aA (LQ.out.below v.2)
    obtain⟨u,hu⟩:∃u,v.1=u:=⟨_,rfl⟩
    rw[hu]at BV ZV LV⊢;clear hu s1 s2 s3 s4 t1 t2 t3 t4 ne v;go_wp2;go_roundw;case rel=>exact⟨i+1,j,by omega,hj,by go_num,BV.out,ZV.out,LV.out,HN⟩
    case measure=>simp[intOf];omega
  ·have hjl:Hid (f j=t):=by show _=_;rw[HT.out,←HL.out,show n-1-i=0 by omega];rfl
   have hin:¬(i:Int)<((n-1:Nat):Int):=by omega
   obtain⟨⟨z0,z1,z2,z3,z4⟩,fz⟩:=HZ.out;obtain⟨⟨l0,l1,l2,l3,l4⟩,_⟩:=HLE.out;simp only[aX]at z0 z1 z2 z3 z4;rw[hjl.out]at l0 l1 l2 l3 l4;clear HL HZ HLE;go_wp2;refine cV (v:=.tuple #[.agg #[.int .i64 t.c,.int .i64 t.m.x,.int .i64 t.m.y,.int .i64 t.m.d,.int .i64 t.m.e],.bool true]) (by simp[results,Tryz.results74,go_sem, *]) rfl ⟨rfl,?_⟩;exact bC hB (Nat.le_refl _) _ _ _ _ _
theorem DQ (w:World) (o:Int) (a:Option Addr) (n cap:Nat) (f:Nat→T) (h:Rd w a n cap f):Calls Tryz.prog 74 #[.int .i64 o,.slice a n cap] w fun r w'=>r= .returned (.tuple #[.agg #[.int .i64 (bF o n f).c,.int .i64 (bF o n f).m.x,.int .i64 (bF o n f).m.y,.int .i64 (bF o n f).m.d,.int .i64 (bF o n f).m.e],.bool (aY o n f)])∧Below w.heap.size w w':=by
 by_cases ho:1≤o∧o≤3
 ·obtain⟨o1,o2⟩:=ho;by_cases hn0:n=0
  ·have e1:aY o n f=false:=by simp[aY,hn0]
   rw[vM e1,e1];clear e1;subst hn0;clear h;go_enter Tryz.func74,Tryz.ntmps74;go_wp2_with fail;refine(gT _ _ o1 o2).mono ?_;rintro r w1 ⟨fv,rfl,hb1⟩;obtain⟨hc1,hf1⟩:=aL hb1;have B1:=aA (aB (aC w _) hb1)
   clear hb1;go_wp2;refine cV (v:=.tuple #[.agg #[.int .i64 0,.int .i64 0,.int .i64 0,.int .i64 0,.int .i64 0],.bool false]) (by simp[results,Tryz.results74,go_sem, *]) rfl ⟨rfl,?_⟩;exact bC B1.out (by omega) _ _ _ _ _
  ·cases hp:aK n f
   ·have e1:aY o n f=false:=by simp[aY,hp]
    rw[vM e1,e1];clear e1;have HR:=aA h
    have hn:(n:Int)≤140737488351232:=by have:=h.2.1;omega
    have hne:((n:Int)==0)=false:=by simp;omega
    clear h hn0;go_enter Tryz.func74,Tryz.ntmps74;go_wp2_with fail;refine(gT _ _ o1 o2).mono ?_;rintro r w1 ⟨fv,rfl,hb1⟩;obtain⟨hc1,hf1⟩:=aL hb1;have B1:=aA (aB (aC w _) hb1)
    have hz1:w.heap.size<w1.heap.size:=by have:=hb1.size;simp at this;omega
    clear hb1;go_wp2_with fail;refine(dZ _ _ _ _ f (HR.out.below B1.out)).mono ?_;rw[hp];rintro r w2 ⟨rfl,hb2⟩;obtain⟨hc2,hf2⟩:=aL hb2;have B2:=aA (aB B1.out hb2)
    clear hb2;go_wp2;refine cV (v:=.tuple #[.agg #[.int .i64 0,.int .i64 0,.int .i64 0,.int .i64 0,.int .i64 0],.bool false]) (by simp[results,Tryz.results74,go_sem, *]) rfl ⟨rfl,?_⟩;exact bC B2.out (by omega) _ _ _ _ _
   ·have ho3:o=1∨o=2∨o=3:=by omega
    rcases ho3 with rfl|rfl|rfl
    ·exact LX w a n cap f h hp (by omega)
    ·exact LY w a n cap f h hp (by omega)
    ·exact LZ w a n cap f h hp (by omega)
 ·have e1:aY o n f=false:=by simp[aY,ho]
  rw[vM e1,e1];have ho':o<1∨3<o:=by omega
  clear e1 ho h;go_enter Tryz.func74,Tryz.ntmps74;go_wp2_with fail;refine(mW _ _ ho').mono ?_;rintro r w1 ⟨rfl,hb1⟩;obtain⟨hc1,hf1⟩:=aL hb1;have B1:=aA (aB (aC w _) hb1)
  clear hb1;go_wp2;refine cV (v:=.tuple #[.agg #[.int .i64 0,.int .i64 0,.int .i64 0,.int .i64 0,.int .i64 0],.bool false]) (by simp[results,Tryz.results74,go_sem, *]) rfl ⟨rfl,?_⟩;exact bC B1.out (by omega) _ _ _ _ _
end Go.Proofs.YtelkehjdfcoeiaaGreat
