/-
  The greatest term of an operator in an order: the program's function.
-/
import Derived.Test.YtdidlcjhodejjaaGreatMad
set_option maxHeartbeats 8000000
set_option maxRecDepth 100000
namespace Go.Proofs.YtdidlcjhodejjaaGreat
open Go.RowKit
set_option linter.unusedVariables false
theorem xZ {a b:Int}:0<c3 a b↔b<a:=by
 unfold c3;constructor
 ·intro h;split at h
  ·omega
  ·split at h<;>omega
 ·intro h;rw[if_neg (by omega),if_pos h];decide
def C5 (w:World) (b:Nat) (t:T):Prop:=
 w.cell? ⟨b,0,none⟩=some (.int .i64 t.c)∧w.cell? ⟨b,1,none⟩=some (.int .i64 t.m.x)∧w.cell? ⟨b,2,none⟩=some (.int .i64 t.m.y)∧w.cell? ⟨b,3,none⟩=some (.int .i64 t.m.d)∧w.cell? ⟨b,4,none⟩=some (.int .i64 t.m.e)
theorem C5.lt {w:World} {b:Nat} {t:T} (h:C5 w b t):b<w.heap.size:=cX w _ h.1
theorem C5.below {w w':World} {b:Nat} {t:T} (h:C5 w b t) (hb:Below w.heap.size w w'):C5 w' b t:=DS hb h
theorem C5.box (w:World) (y:TypeId) (t:T):C5 (w.alloc (.cells #[.int .i64 t.c,.int .i64 t.m.x,.int .i64 t.m.y,.int .i64 t.m.d,.int .i64 t.m.e] y)) w.heap.size t:=
 ⟨by rw[World.cell?_alloc_at _ _ _ _ rfl];rfl,by rw[World.cell?_alloc_at _ _ _ _ rfl];rfl,by rw[World.cell?_alloc_at _ _ _ _ rfl];rfl,by rw[World.cell?_alloc_at _ _ _ _ rfl];rfl,by rw[World.cell?_alloc_at _ _ _ _ rfl];rfl⟩
theorem tV {w:World} {B b o:Nat} {v0 v1 v2 v3 v4:Value} (h:b≠B):(((((w.setCell ⟨B,0,none⟩ v0).setCell ⟨B,1,none⟩ v1).setCell ⟨B,2,none⟩ v2).setCell ⟨B,3,none⟩ v3).setCell ⟨B,4,none⟩ v4).cell? ⟨b,o,none⟩=w.cell? ⟨b,o,none⟩:=by refine mB ?_;rw[Below.heap_setCell _ _ _ _ h,Below.heap_setCell _ _ _ _ h,Below.heap_setCell _ _ _ _ h,Below.heap_setCell _ _ _ _ h,Below.heap_setCell _ _ _ _ h]
theorem Qc {w:World} {B b o:Nat} {v0 v1 v2 v3 v4:Value} (h:b≠B):(((((w.setCell ⟨B,0,none⟩ v0).setCell ⟨B,1,none⟩ v1).setCell ⟨B,2,none⟩ v2).setCell ⟨B,3,none⟩ v3).setCell ⟨B,4,none⟩ v4).frozen? ⟨b,o,none⟩=w.frozen? ⟨b,o,none⟩:=by refine World.frozen?_of_block ?_;rw[Below.heap_setCell _ _ _ _ h,Below.heap_setCell _ _ _ _ h,Below.heap_setCell _ _ _ _ h,Below.heap_setCell _ _ _ _ h,Below.heap_setCell _ _ _ _ h]
def cJ (w:World) (b:Nat) (t:T):Prop:=C5 w b t∧∀j,w.frozen? ⟨b,j,none⟩=false
theorem cJ.below {w w':World} {b:Nat} {t:T} (h:cJ w b t) (hb:Below w.heap.size w w'):cJ w' b t:=⟨h.1.below hb,fun j=>(hb.frozen (p:=⟨b,j,none⟩) h.1.lt).trans (h.2 j)⟩
theorem cJ.box (w:World) (y:TypeId) (t:T):cJ (w.alloc (.cells #[.int .i64 t.c,.int .i64 t.m.x,.int .i64 t.m.y,.int .i64 t.m.d,.int .i64 t.m.e] y)) w.heap.size t:=
 ⟨C5.box w y t,fun j=>by rw[World.frozen?_alloc_at _ _ _ _ rfl]⟩
theorem cJ.far {w:World} {B b:Nat} {t:T} {v0 v1 v2 v3 v4:Value} (m:cJ w b t) (h:b≠B):cJ (((((w.setCell ⟨B,0,none⟩ v0).setCell ⟨B,1,none⟩ v1).setCell ⟨B,2,none⟩ v2).setCell ⟨B,3,none⟩ v3).setCell ⟨B,4,none⟩ v4) b t:=
 ⟨⟨(tV h).trans m.1.1,(tV h).trans m.1.2.1,(tV h).trans m.1.2.2.1,(tV h).trans m.1.2.2.2.1,(tV h).trans m.1.2.2.2.2⟩,fun j=>(Qc h).trans (m.2 j)⟩
def cB:T:=⟨0,⟨0,0,0,0⟩⟩
theorem YR (w:World) (a:Option Addr) (n cap:Nat) (f:Nat→T) (h:Rd w a n cap f) (hp:aN n f=true) (hpos:0<n):Calls Tryz.prog 23 #[.int .i64 1,.slice a n cap] w fun r w'=>r= .returned (.tuple #[.agg #[.int .i64 (bQ 1 n f).c,.int .i64 (bQ 1 n f).m.x,.int .i64 (bQ 1 n f).m.y,.int .i64 (bQ 1 n f).m.d,.int .i64 (bQ 1 n f).m.e],.bool (bF 1 n f)])∧Below w.heap.size w w':=by
 have HR:=aA h;obtain⟨h1,h2,h3⟩:=h;have hn:(n:Int)≤140737488351232:=by omega
 have e1:bF 1 n f=true:=by simp[bF,hp,hpos]
 rw[dP e1,e1];clear e1;have hne:((n:Int)==0)=false:=by simp;omega
 have HM:=aA (tO hp);obtain⟨t,ht⟩:∃t,t=f (bD 1 f n):=⟨_,rfl⟩
 rw[←ht];have HT:=aA ht
 obtain⟨b,off,rfl,hblt,hcl⟩:=h3.resolve_left (by omega);have HCL:=aA hcl
 clear ht h3 hcl;have hn1:(0:Int)<(n:Int):=by omega
 have hn2:(1:Int)≤(n:Int):=by omega
 have hn3:(1:Int)≤(cap:Int):=by omega
 have hn4:(n:Int)≤(cap:Int):=by omega
 have hn5:1≤n:=by omega
 have hn6:1≤cap:=by omega
 by_cases hc1:cap=1
 ·obtain rfl:n=1:=by omega
  subst hc1;have ht0:t=f 0:=HT.out
  subst ht0;go_enter Tryz.func23,Tryz.ntmps23;go_wp2_with fail;refine(pZ _).mono ?_;rintro r w1 ⟨rfl,hb1⟩;have B1:=aA (aB (aC w _) hb1)
  have Z1:=aA ((cJ.box w 42 cB).below hb1);clear hb1;go_wp2_with fail;refine(eO _ _ _ _ f (HR.out.below B1.out)).mono ?_;rw[hp];rintro r w2 ⟨rfl,hb2⟩;have B2:=aA (aB B1.out hb2)
  have Z2:=aA (Z1.out.below hb2);have zw2:w.heap.size<w2.heap.size:=Z2.out.1.lt
  clear hb2 Z1 HR;obtain⟨g0,g1,g2,g3,g4⟩:=(HCL.out 0 hpos).below B2.out hblt;simp only[Nat.zero_mul,Nat.add_zero]at g0 g1 g2 g3 g4;go_wp2;have B3:=aA (B2.out.alloc B2.out.size (.cells #[.int .i64 (f 0).c,.int .i64 (f 0).m.x,.int .i64 (f 0).m.y,.int .i64 (f 0).m.d,.int .i64 (f 0).m.e] 42))
  have Z3:=aA (Z2.out.below (aC w2 (.cells #[.int .i64 (f 0).c,.int .i64 (f 0).m.x,.int .i64 (f 0).m.y,.int .i64 (f 0).m.d,.int .i64 (f 0).m.e] 42)));have L3:=aA (cJ.box w2 42 (f 0))
  clear g0 g1 g2 g3 g4 Z2;go_loopw [35] (fun ii wr=>ii= .int .i64 0∧Below w.heap.size w wr∧cJ wr w.heap.size cB∧cJ wr w2.heap.size (f 0)) (fun _ _=>0);case atStart=>exact⟨rfl,B3.out,Z3.out,L3.out⟩
  case round=>
   obtain⟨rfl,hB,hZ,hL⟩:=hrel;obtain⟨⟨z0,z1,z2,z3,z4⟩,fz⟩:=hZ;obtain⟨⟨l0,l1,l2,l3,l4⟩,_⟩:=hL;simp only[cB]at z0 z1 z2 z3 z4;go_wp2;refine bY (v:=.tuple #[.agg #[.int .i64 (f 0).c,.int .i64 (f 0).m.x,.int .i64 (f 0).m.y,.int .i64 (f 0).m.d,.int .i64 (f 0).m.e],.bool true]) (by simp[results,Tryz.results23,go_sem, *]) rfl ⟨rfl,?_⟩;exact cE hB (Nat.le_refl _) _ _ _ _ _
 go_enter Tryz.func23,Tryz.ntmps23;go_wp2_with fail;refine(pZ _).mono ?_;rintro r w1 ⟨rfl,hb1⟩;have B1:=aA (aB (aC w _) hb1)
 have Z1:=aA ((cJ.box w 42 cB).below hb1);clear hb1;go_wp2_with fail;refine(eO _ _ _ _ f (HR.out.below B1.out)).mono ?_;rw[hp];rintro r w2 ⟨rfl,hb2⟩;have B2:=aA (aB B1.out hb2)
 have Z2:=aA (Z1.out.below hb2);have zw2:w.heap.size<w2.heap.size:=Z2.out.1.lt
 have bw2:b<w2.heap.size:=jY hblt B2.out.size;clear hb2 Z1 HR;obtain⟨g0,g1,g2,g3,g4⟩:=(HCL.out 0 hpos).below B2.out hblt;simp only[Nat.zero_mul,Nat.add_zero]at g0 g1 g2 g3 g4;go_wp2;have B3:=aA (B2.out.alloc B2.out.size (.cells #[.int .i64 (f 0).c,.int .i64 (f 0).m.x,.int .i64 (f 0).m.y,.int .i64 (f 0).m.d,.int .i64 (f 0).m.e] 42))
 have Z3:=aA (Z2.out.below (aC w2 (.cells #[.int .i64 (f 0).c,.int .i64 (f 0).m.x,.int .i64 (f 0).m.y,.int .i64 (f 0).m.d,.int .i64 (f 0).m.e] 42)));have L3:=aA (cJ.box w2 42 (f 0))
 clear g0 g1 g2 g3 g4 Z2;go_loopw [35] (fun ii wr=>∃i j:Nat,i≤n-1∧j<n∧ii= .int .i64 i∧Below w.heap.size w wr∧cJ wr w.heap.size cB∧cJ wr w2.heap.size (f j)∧Hid (bB 1 f (n-1-i) (i+1) j=bD 1 f n)) (fun ii _=>n-(intOf ii).toNat);case atStart=>exact⟨0,0,Nat.zero_le _,hpos,rfl,B3.out,Z3.out,L3.out,rfl⟩
 case round=>
  obtain⟨i,j,hi,hj,rfl,hB,hZ,hL,HL⟩:=hrel;have HZ:=aA hZ
  have HLE:=aA hL;have zwr:w2.heap.size<wr.heap.size:=hL.1.lt
  clear hZ hL;by_cases hlt:i<n-1
  ·have hi1:i+1<n:=by omega
   have hin:(i:Int)<((n-1:Nat):Int):=by omega
   obtain⟨g0,g1,g2,g3,g4⟩:=(HCL.out (i+1) hi1).below hB hblt;rw[show off+(i+1)*5=off+5+i*5 by omega]at g0 g1 g2 g3 g4;have HOI:=aA (HM.out (i+1) hi1)
   have HOJ:=aA (HM.out j hj);have BQ:=aA (hB.alloc hB.size (.cells #[.int .i64 (f (i+1)).c,.int .i64 (f (i+1)).m.x,.int .i64 (f (i+1)).m.y,.int .i64 (f (i+1)).m.d,.int .i64 (f (i+1)).m.e] 42))
   have ZQ:=aA (HZ.out.below (aC wr (.cells #[.int .i64 (f (i+1)).c,.int .i64 (f (i+1)).m.x,.int .i64 (f (i+1)).m.y,.int .i64 (f (i+1)).m.d,.int .i64 (f (i+1)).m.e] 42)));have LQ:=aA (HLE.out.below (aC wr (.cells #[.int .i64 (f (i+1)).c,.int .i64 (f (i+1)).m.x,.int .i64 (f (i+1)).m.y,.int .i64 (f (i+1)).m.d,.int .i64 (f (i+1)).m.e] 42)))
   have TQ:=aA (C5.box wr 42 (f (i+1)));go_wp2_with fail;generalize(wr.alloc (.cells #[.int .i64 (f (i+1)).c,.int .i64 (f (i+1)).m.x,.int .i64 (f (i+1)).m.y,.int .i64 (f (i+1)).m.d,.int .i64 (f (i+1)).m.e] 42))=wq at BQ ZQ LQ TQ⊢;clear g0 g1 g2 g3 g4 HZ HLE;have ne:=bJ.there wq
   have s1:∀u:bJ wq,u.1.cell? ⟨wr.heap.size,1,none⟩=some (.int .i64 (f (i+1)).m.x):=fun u=>(u.cell TQ.out.lt).trans TQ.out.2.1;have s2:∀u:bJ wq,u.1.cell? ⟨wr.heap.size,2,none⟩=some (.int .i64 (f (i+1)).m.y):=fun u=>(u.cell TQ.out.lt).trans TQ.out.2.2.1
   have s3:∀u:bJ wq,u.1.cell? ⟨wr.heap.size,3,none⟩=some (.int .i64 (f (i+1)).m.d):=fun u=>(u.cell TQ.out.lt).trans TQ.out.2.2.2.1;have s4:∀u:bJ wq,u.1.cell? ⟨wr.heap.size,4,none⟩=some (.int .i64 (f (i+1)).m.e):=fun u=>(u.cell TQ.out.lt).trans TQ.out.2.2.2.2
   have t1:∀u:bJ wq,u.1.cell? ⟨w2.heap.size,1,none⟩=some (.int .i64 (f j).m.x):=fun u=>(u.cell LQ.out.1.lt).trans LQ.out.1.2.1;have t2:∀u:bJ wq,u.1.cell? ⟨w2.heap.size,2,none⟩=some (.int .i64 (f j).m.y):=fun u=>(u.cell LQ.out.1.lt).trans LQ.out.1.2.2.1
   have t3:∀u:bJ wq,u.1.cell? ⟨w2.heap.size,3,none⟩=some (.int .i64 (f j).m.d):=fun u=>(u.cell LQ.out.1.lt).trans LQ.out.1.2.2.2.1;have t4:∀u:bJ wq,u.1.cell? ⟨w2.heap.size,4,none⟩=some (.int .i64 (f j).m.e):=fun u=>(u.cell LQ.out.1.lt).trans LQ.out.1.2.2.2.2
   by_cases hq:fF (f j).m<fF (f (i+1)).m
   ·have dq:decide (fF ⟨(f j).m.x,(f j).m.y,(f j).m.d,(f j).m.e⟩<fF ⟨(f (i+1)).m.x,(f (i+1)).m.y,(f (i+1)).m.d,(f (i+1)).m.e⟩)=true:=decide_eq_true hq;have hord:0<M.ord 1 (f (i+1)).m (f j).m:=by rw[←yS HOI.out HOJ.out];exact xZ.2 hq
    have HN:Hid (bB 1 f (n-1-(i+1)) (i+1+1) (i+1)=bD 1 f n):=by show _=_;rw[←HL.out,show n-1-i=(n-1-(i+1))+1 by omega,bB,if_pos hord]
    clear hq HL hord;refine aG (by kernel_rfl) (by kernel_rfl) ?_;repeat(go_big_quiet_step (first|(go_at_call 103;exact aJ (fZ _ _ _ _ _ HOI.out))|(go_at_call 103;exact aJ (fZ _ _ _ _ _ HOJ.out))))
    refine wpQuiet_nil ?_;rintro _ ⟨v,rfl⟩;have BV:=aA (BQ.out.trans (v.2.mono BQ.out.size))
    have ZV:=aA (ZQ.out.below v.2);have LV:=aA (LQ.out.below v.2)
    have TV:=aA (TQ.out.below v.2);obtain⟨u,hu⟩:∃u,v.1=u:=⟨_,rfl⟩
    rw[hu]at BV ZV LV TV⊢;clear hu s1 s2 s3 s4 t1 t2 t3 t4 ne v;obtain⟨q0,q1,q2,q3,q4⟩:=TV.out;obtain⟨⟨l0,l1,l2,l3,l4⟩,lz⟩:=LV.out;go_wp2;go_roundw
    case rel=>
     refine⟨i+1,i+1,by omega,hi1,by go_num,cE BV.out (by omega) _ _ _ _ _,ZV.out.far (by omega),⟨⟨by go_simp,by go_simp,by go_simp,by go_simp,by go_simp⟩,fun j=>by go_simp⟩,HN⟩
    case measure=>simp[intOf];omega
   ·have dq:decide (fF ⟨(f j).m.x,(f j).m.y,(f j).m.d,(f j).m.e⟩<fF ⟨(f (i+1)).m.x,(f (i+1)).m.y,(f (i+1)).m.d,(f (i+1)).m.e⟩)=false:=decide_eq_false hq;have hord:¬0<M.ord 1 (f (i+1)).m (f j).m:=by rw[←yS HOI.out HOJ.out];exact fun h=>hq (xZ.1 h)
    have HN:Hid (bB 1 f (n-1-(i+1)) (i+1+1) j=bD 1 f n):=by show _=_;rw[←HL.out,show n-1-i=(n-1-(i+1))+1 by omega,bB,if_neg hord]
    clear hq HL hord;refine aG (by kernel_rfl) (by kernel_rfl) ?_;repeat(go_big_quiet_step (first|(go_at_call 103;exact aJ (fZ _ _ _ _ _ HOI.out))|(go_at_call 103;exact aJ (fZ _ _ _ _ _ HOJ.out))))
    refine wpQuiet_nil ?_;rintro _ ⟨v,rfl⟩;have BV:=aA (BQ.out.trans (v.2.mono BQ.out.size))
    have ZV:=aA (ZQ.out.below v.2);have LV:=aA (LQ.out.below v.2)
    obtain⟨u,hu⟩:∃u,v.1=u:=⟨_,rfl⟩
    rw[hu]at BV ZV LV⊢;clear hu s1 s2 s3 s4 t1 t2 t3 t4 ne v;go_wp2;go_roundw;case rel=>exact⟨i+1,j,by omega,hj,by go_num,BV.out,ZV.out,LV.out,HN⟩
    case measure=>simp[intOf];omega
  ·have hjl:Hid (f j=t):=by show _=_;rw[HT.out,←HL.out,show n-1-i=0 by omega];rfl
   have hin:¬(i:Int)<((n-1:Nat):Int):=by omega
   obtain⟨⟨z0,z1,z2,z3,z4⟩,fz⟩:=HZ.out;obtain⟨⟨l0,l1,l2,l3,l4⟩,_⟩:=HLE.out;simp only[cB]at z0 z1 z2 z3 z4;rw[hjl.out]at l0 l1 l2 l3 l4;clear HL HZ HLE;go_wp2;refine bY (v:=.tuple #[.agg #[.int .i64 t.c,.int .i64 t.m.x,.int .i64 t.m.y,.int .i64 t.m.d,.int .i64 t.m.e],.bool true]) (by simp[results,Tryz.results23,go_sem, *]) rfl ⟨rfl,?_⟩;exact cE hB (Nat.le_refl _) _ _ _ _ _
theorem YS (w:World) (a:Option Addr) (n cap:Nat) (f:Nat→T) (h:Rd w a n cap f) (hp:aN n f=true) (hpos:0<n):Calls Tryz.prog 23 #[.int .i64 2,.slice a n cap] w fun r w'=>r= .returned (.tuple #[.agg #[.int .i64 (bQ 2 n f).c,.int .i64 (bQ 2 n f).m.x,.int .i64 (bQ 2 n f).m.y,.int .i64 (bQ 2 n f).m.d,.int .i64 (bQ 2 n f).m.e],.bool (bF 2 n f)])∧Below w.heap.size w w':=by
 have HR:=aA h;obtain⟨h1,h2,h3⟩:=h;have hn:(n:Int)≤140737488351232:=by omega
 have e1:bF 2 n f=true:=by simp[bF,hp,hpos]
 rw[dP e1,e1];clear e1;have hne:((n:Int)==0)=false:=by simp;omega
 have HM:=aA (tO hp);obtain⟨t,ht⟩:∃t,t=f (bD 2 f n):=⟨_,rfl⟩
 rw[←ht];have HT:=aA ht
 obtain⟨b,off,rfl,hblt,hcl⟩:=h3.resolve_left (by omega);have HCL:=aA hcl
 clear ht h3 hcl;have hn1:(0:Int)<(n:Int):=by omega
 have hn2:(1:Int)≤(n:Int):=by omega
 have hn3:(1:Int)≤(cap:Int):=by omega
 have hn4:(n:Int)≤(cap:Int):=by omega
 have hn5:1≤n:=by omega
 have hn6:1≤cap:=by omega
 by_cases hc1:cap=1
 ·obtain rfl:n=1:=by omega
  subst hc1;have ht0:t=f 0:=HT.out
  subst ht0;go_enter Tryz.func23,Tryz.ntmps23;go_wp2_with fail;refine(qB _).mono ?_;rintro r w1 ⟨rfl,hb1⟩;have B1:=aA (aB (aC w _) hb1)
  have Z1:=aA ((cJ.box w 42 cB).below hb1);clear hb1;go_wp2_with fail;refine(eO _ _ _ _ f (HR.out.below B1.out)).mono ?_;rw[hp];rintro r w2 ⟨rfl,hb2⟩;have B2:=aA (aB B1.out hb2)
  have Z2:=aA (Z1.out.below hb2);have zw2:w.heap.size<w2.heap.size:=Z2.out.1.lt
  clear hb2 Z1 HR;obtain⟨g0,g1,g2,g3,g4⟩:=(HCL.out 0 hpos).below B2.out hblt;simp only[Nat.zero_mul,Nat.add_zero]at g0 g1 g2 g3 g4;go_wp2;have B3:=aA (B2.out.alloc B2.out.size (.cells #[.int .i64 (f 0).c,.int .i64 (f 0).m.x,.int .i64 (f 0).m.y,.int .i64 (f 0).m.d,.int .i64 (f 0).m.e] 42))
  have Z3:=aA (Z2.out.below (aC w2 (.cells #[.int .i64 (f 0).c,.int .i64 (f 0).m.x,.int .i64 (f 0).m.y,.int .i64 (f 0).m.d,.int .i64 (f 0).m.e] 42)));have L3:=aA (cJ.box w2 42 (f 0))
  clear g0 g1 g2 g3 g4 Z2;go_loopw [35] (fun ii wr=>ii= .int .i64 0∧Below w.heap.size w wr∧cJ wr w.heap.size cB∧cJ wr w2.heap.size (f 0)) (fun _ _=>0);case atStart=>exact⟨rfl,B3.out,Z3.out,L3.out⟩
  case round=>
   obtain⟨rfl,hB,hZ,hL⟩:=hrel;obtain⟨⟨z0,z1,z2,z3,z4⟩,fz⟩:=hZ;obtain⟨⟨l0,l1,l2,l3,l4⟩,_⟩:=hL;simp only[cB]at z0 z1 z2 z3 z4;go_wp2;refine bY (v:=.tuple #[.agg #[.int .i64 (f 0).c,.int .i64 (f 0).m.x,.int .i64 (f 0).m.y,.int .i64 (f 0).m.d,.int .i64 (f 0).m.e],.bool true]) (by simp[results,Tryz.results23,go_sem, *]) rfl ⟨rfl,?_⟩;exact cE hB (Nat.le_refl _) _ _ _ _ _
 go_enter Tryz.func23,Tryz.ntmps23;go_wp2_with fail;refine(qB _).mono ?_;rintro r w1 ⟨rfl,hb1⟩;have B1:=aA (aB (aC w _) hb1)
 have Z1:=aA ((cJ.box w 42 cB).below hb1);clear hb1;go_wp2_with fail;refine(eO _ _ _ _ f (HR.out.below B1.out)).mono ?_;rw[hp];rintro r w2 ⟨rfl,hb2⟩;have B2:=aA (aB B1.out hb2)
 have Z2:=aA (Z1.out.below hb2);have zw2:w.heap.size<w2.heap.size:=Z2.out.1.lt
 have bw2:b<w2.heap.size:=jY hblt B2.out.size;clear hb2 Z1 HR;obtain⟨g0,g1,g2,g3,g4⟩:=(HCL.out 0 hpos).below B2.out hblt;simp only[Nat.zero_mul,Nat.add_zero]at g0 g1 g2 g3 g4;go_wp2;have B3:=aA (B2.out.alloc B2.out.size (.cells #[.int .i64 (f 0).c,.int .i64 (f 0).m.x,.int .i64 (f 0).m.y,.int .i64 (f 0).m.d,.int .i64 (f 0).m.e] 42))
 have Z3:=aA (Z2.out.below (aC w2 (.cells #[.int .i64 (f 0).c,.int .i64 (f 0).m.x,.int .i64 (f 0).m.y,.int .i64 (f 0).m.d,.int .i64 (f 0).m.e] 42)));have L3:=aA (cJ.box w2 42 (f 0))
 clear g0 g1 g2 g3 g4 Z2;go_loopw [35] (fun ii wr=>∃i j:Nat,i≤n-1∧j<n∧ii= .int .i64 i∧Below w.heap.size w wr∧cJ wr w.heap.size cB∧cJ wr w2.heap.size (f j)∧Hid (bB 2 f (n-1-i) (i+1) j=bD 2 f n)) (fun ii _=>n-(intOf ii).toNat);case atStart=>exact⟨0,0,Nat.zero_le _,hpos,rfl,B3.out,Z3.out,L3.out,rfl⟩
 case round=>
  obtain⟨i,j,hi,hj,rfl,hB,hZ,hL,HL⟩:=hrel;have HZ:=aA hZ
  have HLE:=aA hL;have zwr:w2.heap.size<wr.heap.size:=hL.1.lt
  clear hZ hL;by_cases hlt:i<n-1
  ·have hi1:i+1<n:=by omega
   have hin:(i:Int)<((n-1:Nat):Int):=by omega
   obtain⟨g0,g1,g2,g3,g4⟩:=(HCL.out (i+1) hi1).below hB hblt;rw[show off+(i+1)*5=off+5+i*5 by omega]at g0 g1 g2 g3 g4;have HOI:=aA (HM.out (i+1) hi1)
   have HOJ:=aA (HM.out j hj);have BQ:=aA (hB.alloc hB.size (.cells #[.int .i64 (f (i+1)).c,.int .i64 (f (i+1)).m.x,.int .i64 (f (i+1)).m.y,.int .i64 (f (i+1)).m.d,.int .i64 (f (i+1)).m.e] 42))
   have ZQ:=aA (HZ.out.below (aC wr (.cells #[.int .i64 (f (i+1)).c,.int .i64 (f (i+1)).m.x,.int .i64 (f (i+1)).m.y,.int .i64 (f (i+1)).m.d,.int .i64 (f (i+1)).m.e] 42)));have LQ:=aA (HLE.out.below (aC wr (.cells #[.int .i64 (f (i+1)).c,.int .i64 (f (i+1)).m.x,.int .i64 (f (i+1)).m.y,.int .i64 (f (i+1)).m.d,.int .i64 (f (i+1)).m.e] 42)))
   have TQ:=aA (C5.box wr 42 (f (i+1)));go_wp2_with fail;generalize(wr.alloc (.cells #[.int .i64 (f (i+1)).c,.int .i64 (f (i+1)).m.x,.int .i64 (f (i+1)).m.y,.int .i64 (f (i+1)).m.d,.int .i64 (f (i+1)).m.e] 42))=wq at BQ ZQ LQ TQ⊢;clear g0 g1 g2 g3 g4 HZ HLE;have ne:=bJ.there wq
   have s1:∀u:bJ wq,u.1.cell? ⟨wr.heap.size,1,none⟩=some (.int .i64 (f (i+1)).m.x):=fun u=>(u.cell TQ.out.lt).trans TQ.out.2.1;have s2:∀u:bJ wq,u.1.cell? ⟨wr.heap.size,2,none⟩=some (.int .i64 (f (i+1)).m.y):=fun u=>(u.cell TQ.out.lt).trans TQ.out.2.2.1
   have s3:∀u:bJ wq,u.1.cell? ⟨wr.heap.size,3,none⟩=some (.int .i64 (f (i+1)).m.d):=fun u=>(u.cell TQ.out.lt).trans TQ.out.2.2.2.1;have s4:∀u:bJ wq,u.1.cell? ⟨wr.heap.size,4,none⟩=some (.int .i64 (f (i+1)).m.e):=fun u=>(u.cell TQ.out.lt).trans TQ.out.2.2.2.2
   have t1:∀u:bJ wq,u.1.cell? ⟨w2.heap.size,1,none⟩=some (.int .i64 (f j).m.x):=fun u=>(u.cell LQ.out.1.lt).trans LQ.out.1.2.1;have t2:∀u:bJ wq,u.1.cell? ⟨w2.heap.size,2,none⟩=some (.int .i64 (f j).m.y):=fun u=>(u.cell LQ.out.1.lt).trans LQ.out.1.2.2.1
   have t3:∀u:bJ wq,u.1.cell? ⟨w2.heap.size,3,none⟩=some (.int .i64 (f j).m.d):=fun u=>(u.cell LQ.out.1.lt).trans LQ.out.1.2.2.2.1;have t4:∀u:bJ wq,u.1.cell? ⟨w2.heap.size,4,none⟩=some (.int .i64 (f j).m.e):=fun u=>(u.cell LQ.out.1.lt).trans LQ.out.1.2.2.2.2
   by_cases hq:iF (f j).m<iF (f (i+1)).m
   ·have dq:decide (iF ⟨(f j).m.x,(f j).m.y,(f j).m.d,(f j).m.e⟩<iF ⟨(f (i+1)).m.x,(f (i+1)).m.y,(f (i+1)).m.d,(f (i+1)).m.e⟩)=true:=decide_eq_true hq;have hord:0<M.ord 2 (f (i+1)).m (f j).m:=by rw[←KS HOI.out HOJ.out];exact xZ.2 hq
    have HN:Hid (bB 2 f (n-1-(i+1)) (i+1+1) (i+1)=bD 2 f n):=by show _=_;rw[←HL.out,show n-1-i=(n-1-(i+1))+1 by omega,bB,if_pos hord]
    clear hq HL hord;refine aG (by kernel_rfl) (by kernel_rfl) ?_;repeat(go_big_quiet_step (first|(go_at_call 104;exact aJ (iP _ _ _ _ _ HOI.out))|(go_at_call 104;exact aJ (iP _ _ _ _ _ HOJ.out))))
    refine wpQuiet_nil ?_;rintro _ ⟨v,rfl⟩;have BV:=aA (BQ.out.trans (v.2.mono BQ.out.size))
    have ZV:=aA (ZQ.out.below v.2);have LV:=aA (LQ.out.below v.2)
    have TV:=aA (TQ.out.below v.2);obtain⟨u,hu⟩:∃u,v.1=u:=⟨_,rfl⟩
    rw[hu]at BV ZV LV TV⊢;clear hu s1 s2 s3 s4 t1 t2 t3 t4 ne v;obtain⟨q0,q1,q2,q3,q4⟩:=TV.out;obtain⟨⟨l0,l1,l2,l3,l4⟩,lz⟩:=LV.out;go_wp2;go_roundw
    case rel=>
     refine⟨i+1,i+1,by omega,hi1,by go_num,cE BV.out (by omega) _ _ _ _ _,ZV.out.far (by omega),⟨⟨by go_simp,by go_simp,by go_simp,by go_simp,by go_simp⟩,fun j=>by go_simp⟩,HN⟩
    case measure=>simp[intOf];omega
   ·have dq:decide (iF ⟨(f j).m.x,(f j).m.y,(f j).m.d,(f j).m.e⟩<iF ⟨(f (i+1)).m.x,(f (i+1)).m.y,(f (i+1)).m.d,(f (i+1)).m.e⟩)=false:=decide_eq_false hq;have hord:¬0<M.ord 2 (f (i+1)).m (f j).m:=by rw[←KS HOI.out HOJ.out];exact fun h=>hq (xZ.1 h)
    have HN:Hid (bB 2 f (n-1-(i+1)) (i+1+1) j=bD 2 f n):=by show _=_;rw[←HL.out,show n-1-i=(n-1-(i+1))+1 by omega,bB,if_neg hord]
    clear hq HL hord;refine aG (by kernel_rfl) (by kernel_rfl) ?_;repeat(go_big_quiet_step (first|(go_at_call 104;exact aJ (iP _ _ _ _ _ HOI.out))|(go_at_call 104;exact aJ (iP _ _ _ _ _ HOJ.out))))
    refine wpQuiet_nil ?_;rintro _ ⟨v,rfl⟩;have BV:=aA (BQ.out.trans (v.2.mono BQ.out.size))
    have ZV:=aA (ZQ.out.below v.2);have LV:=aA (LQ.out.below v.2)
    obtain⟨u,hu⟩:∃u,v.1=u:=⟨_,rfl⟩
    rw[hu]at BV ZV LV⊢;clear hu s1 s2 s3 s4 t1 t2 t3 t4 ne v;go_wp2;go_roundw;case rel=>exact⟨i+1,j,by omega,hj,by go_num,BV.out,ZV.out,LV.out,HN⟩
    case measure=>simp[intOf];omega
  ·have hjl:Hid (f j=t):=by show _=_;rw[HT.out,←HL.out,show n-1-i=0 by omega];rfl
   have hin:¬(i:Int)<((n-1:Nat):Int):=by omega
   obtain⟨⟨z0,z1,z2,z3,z4⟩,fz⟩:=HZ.out;obtain⟨⟨l0,l1,l2,l3,l4⟩,_⟩:=HLE.out;simp only[cB]at z0 z1 z2 z3 z4;rw[hjl.out]at l0 l1 l2 l3 l4;clear HL HZ HLE;go_wp2;refine bY (v:=.tuple #[.agg #[.int .i64 t.c,.int .i64 t.m.x,.int .i64 t.m.y,.int .i64 t.m.d,.int .i64 t.m.e],.bool true]) (by simp[results,Tryz.results23,go_sem, *]) rfl ⟨rfl,?_⟩;exact cE hB (Nat.le_refl _) _ _ _ _ _
theorem YT (w:World) (a:Option Addr) (n cap:Nat) (f:Nat→T) (h:Rd w a n cap f) (hp:aN n f=true) (hpos:0<n):Calls Tryz.prog 23 #[.int .i64 3,.slice a n cap] w fun r w'=>r= .returned (.tuple #[.agg #[.int .i64 (bQ 3 n f).c,.int .i64 (bQ 3 n f).m.x,.int .i64 (bQ 3 n f).m.y,.int .i64 (bQ 3 n f).m.d,.int .i64 (bQ 3 n f).m.e],.bool (bF 3 n f)])∧Below w.heap.size w w':=by
 have HR:=aA h;obtain⟨h1,h2,h3⟩:=h;have hn:(n:Int)≤140737488351232:=by omega
 have e1:bF 3 n f=true:=by simp[bF,hp,hpos]
 rw[dP e1,e1];clear e1;have hne:((n:Int)==0)=false:=by simp;omega
 have HM:=aA (tO hp);obtain⟨t,ht⟩:∃t,t=f (bD 3 f n):=⟨_,rfl⟩
 rw[←ht];have HT:=aA ht
 obtain⟨b,off,rfl,hblt,hcl⟩:=h3.resolve_left (by omega);have HCL:=aA hcl
 clear ht h3 hcl;have hn1:(0:Int)<(n:Int):=by omega
 have hn2:(1:Int)≤(n:Int):=by omega
 have hn3:(1:Int)≤(cap:Int):=by omega
 have hn4:(n:Int)≤(cap:Int):=by omega
 have hn5:1≤n:=by omega
 have hn6:1≤cap:=by omega
 by_cases hc1:cap=1
 ·obtain rfl:n=1:=by omega
  subst hc1;have ht0:t=f 0:=HT.out
  subst ht0;go_enter Tryz.func23,Tryz.ntmps23;go_wp2_with fail;refine(qD _).mono ?_;rintro r w1 ⟨rfl,hb1⟩;have B1:=aA (aB (aC w _) hb1)
  have Z1:=aA ((cJ.box w 42 cB).below hb1);clear hb1;go_wp2_with fail;refine(eO _ _ _ _ f (HR.out.below B1.out)).mono ?_;rw[hp];rintro r w2 ⟨rfl,hb2⟩;have B2:=aA (aB B1.out hb2)
  have Z2:=aA (Z1.out.below hb2);have zw2:w.heap.size<w2.heap.size:=Z2.out.1.lt
  clear hb2 Z1 HR;obtain⟨g0,g1,g2,g3,g4⟩:=(HCL.out 0 hpos).below B2.out hblt;simp only[Nat.zero_mul,Nat.add_zero]at g0 g1 g2 g3 g4;go_wp2;have B3:=aA (B2.out.alloc B2.out.size (.cells #[.int .i64 (f 0).c,.int .i64 (f 0).m.x,.int .i64 (f 0).m.y,.int .i64 (f 0).m.d,.int .i64 (f 0).m.e] 42))
  have Z3:=aA (Z2.out.below (aC w2 (.cells #[.int .i64 (f 0).c,.int .i64 (f 0).m.x,.int .i64 (f 0).m.y,.int .i64 (f 0).m.d,.int .i64 (f 0).m.e] 42)));have L3:=aA (cJ.box w2 42 (f 0))
  clear g0 g1 g2 g3 g4 Z2;go_loopw [35] (fun ii wr=>ii= .int .i64 0∧Below w.heap.size w wr∧cJ wr w.heap.size cB∧cJ wr w2.heap.size (f 0)) (fun _ _=>0);case atStart=>exact⟨rfl,B3.out,Z3.out,L3.out⟩
  case round=>
   obtain⟨rfl,hB,hZ,hL⟩:=hrel;obtain⟨⟨z0,z1,z2,z3,z4⟩,fz⟩:=hZ;obtain⟨⟨l0,l1,l2,l3,l4⟩,_⟩:=hL;simp only[cB]at z0 z1 z2 z3 z4;go_wp2;refine bY (v:=.tuple #[.agg #[.int .i64 (f 0).c,.int .i64 (f 0).m.x,.int .i64 (f 0).m.y,.int .i64 (f 0).m.d,.int .i64 (f 0).m.e],.bool true]) (by simp[results,Tryz.results23,go_sem, *]) rfl ⟨rfl,?_⟩;exact cE hB (Nat.le_refl _) _ _ _ _ _
 go_enter Tryz.func23,Tryz.ntmps23;go_wp2_with fail;refine(qD _).mono ?_;rintro r w1 ⟨rfl,hb1⟩;have B1:=aA (aB (aC w _) hb1)
 have Z1:=aA ((cJ.box w 42 cB).below hb1);clear hb1;go_wp2_with fail;refine(eO _ _ _ _ f (HR.out.below B1.out)).mono ?_;rw[hp];rintro r w2 ⟨rfl,hb2⟩;have B2:=aA (aB B1.out hb2)
 have Z2:=aA (Z1.out.below hb2);have zw2:w.heap.size<w2.heap.size:=Z2.out.1.lt
 have bw2:b<w2.heap.size:=jY hblt B2.out.size;clear hb2 Z1 HR;obtain⟨g0,g1,g2,g3,g4⟩:=(HCL.out 0 hpos).below B2.out hblt;simp only[Nat.zero_mul,Nat.add_zero]at g0 g1 g2 g3 g4;go_wp2;have B3:=aA (B2.out.alloc B2.out.size (.cells #[.int .i64 (f 0).c,.int .i64 (f 0).m.x,.int .i64 (f 0).m.y,.int .i64 (f 0).m.d,.int .i64 (f 0).m.e] 42))
 have Z3:=aA (Z2.out.below (aC w2 (.cells #[.int .i64 (f 0).c,.int .i64 (f 0).m.x,.int .i64 (f 0).m.y,.int .i64 (f 0).m.d,.int .i64 (f 0).m.e] 42)));have L3:=aA (cJ.box w2 42 (f 0))
 clear g0 g1 g2 g3 g4 Z2;go_loopw [35] (fun ii wr=>∃i j:Nat,i≤n-1∧j<n∧ii= .int .i64 i∧Below w.heap.size w wr∧cJ wr w.heap.size cB∧cJ wr w2.heap.size (f j)∧Hid (bB 3 f (n-1-i) (i+1) j=bD 3 f n)) (fun ii _=>n-(intOf ii).toNat);case atStart=>exact⟨0,0,Nat.zero_le _,hpos,rfl,B3.out,Z3.out,L3.out,rfl⟩
 case round=>
  obtain⟨i,j,hi,hj,rfl,hB,hZ,hL,HL⟩:=hrel;have HZ:=aA hZ
  have HLE:=aA hL;have zwr:w2.heap.size<wr.heap.size:=hL.1.lt
  clear hZ hL;by_cases hlt:i<n-1
  ·have hi1:i+1<n:=by omega
   have hin:(i:Int)<((n-1:Nat):Int):=by omega
   obtain⟨g0,g1,g2,g3,g4⟩:=(HCL.out (i+1) hi1).below hB hblt;rw[show off+(i+1)*5=off+5+i*5 by omega]at g0 g1 g2 g3 g4;have HOI:=aA (HM.out (i+1) hi1)
   have HOJ:=aA (HM.out j hj);have BQ:=aA (hB.alloc hB.size (.cells #[.int .i64 (f (i+1)).c,.int .i64 (f (i+1)).m.x,.int .i64 (f (i+1)).m.y,.int .i64 (f (i+1)).m.d,.int .i64 (f (i+1)).m.e] 42))
   have ZQ:=aA (HZ.out.below (aC wr (.cells #[.int .i64 (f (i+1)).c,.int .i64 (f (i+1)).m.x,.int .i64 (f (i+1)).m.y,.int .i64 (f (i+1)).m.d,.int .i64 (f (i+1)).m.e] 42)));have LQ:=aA (HLE.out.below (aC wr (.cells #[.int .i64 (f (i+1)).c,.int .i64 (f (i+1)).m.x,.int .i64 (f (i+1)).m.y,.int .i64 (f (i+1)).m.d,.int .i64 (f (i+1)).m.e] 42)))
   have TQ:=aA (C5.box wr 42 (f (i+1)));go_wp2_with fail;generalize(wr.alloc (.cells #[.int .i64 (f (i+1)).c,.int .i64 (f (i+1)).m.x,.int .i64 (f (i+1)).m.y,.int .i64 (f (i+1)).m.d,.int .i64 (f (i+1)).m.e] 42))=wq at BQ ZQ LQ TQ⊢;clear g0 g1 g2 g3 g4 HZ HLE;have ne:=bJ.there wq
   have s1:∀u:bJ wq,u.1.cell? ⟨wr.heap.size,1,none⟩=some (.int .i64 (f (i+1)).m.x):=fun u=>(u.cell TQ.out.lt).trans TQ.out.2.1;have s2:∀u:bJ wq,u.1.cell? ⟨wr.heap.size,2,none⟩=some (.int .i64 (f (i+1)).m.y):=fun u=>(u.cell TQ.out.lt).trans TQ.out.2.2.1
   have s3:∀u:bJ wq,u.1.cell? ⟨wr.heap.size,3,none⟩=some (.int .i64 (f (i+1)).m.d):=fun u=>(u.cell TQ.out.lt).trans TQ.out.2.2.2.1;have s4:∀u:bJ wq,u.1.cell? ⟨wr.heap.size,4,none⟩=some (.int .i64 (f (i+1)).m.e):=fun u=>(u.cell TQ.out.lt).trans TQ.out.2.2.2.2
   have t1:∀u:bJ wq,u.1.cell? ⟨w2.heap.size,1,none⟩=some (.int .i64 (f j).m.x):=fun u=>(u.cell LQ.out.1.lt).trans LQ.out.1.2.1;have t2:∀u:bJ wq,u.1.cell? ⟨w2.heap.size,2,none⟩=some (.int .i64 (f j).m.y):=fun u=>(u.cell LQ.out.1.lt).trans LQ.out.1.2.2.1
   have t3:∀u:bJ wq,u.1.cell? ⟨w2.heap.size,3,none⟩=some (.int .i64 (f j).m.d):=fun u=>(u.cell LQ.out.1.lt).trans LQ.out.1.2.2.2.1;have t4:∀u:bJ wq,u.1.cell? ⟨w2.heap.size,4,none⟩=some (.int .i64 (f j).m.e):=fun u=>(u.cell LQ.out.1.lt).trans LQ.out.1.2.2.2.2
   by_cases hq:xT (f j).m<xT (f (i+1)).m
   ·have dq:decide (xT ⟨(f j).m.x,(f j).m.y,(f j).m.d,(f j).m.e⟩<xT ⟨(f (i+1)).m.x,(f (i+1)).m.y,(f (i+1)).m.d,(f (i+1)).m.e⟩)=true:=decide_eq_true hq;have hord:0<M.ord 3 (f (i+1)).m (f j).m:=by rw[←KQ HOI.out HOJ.out];exact xZ.2 hq
    have HN:Hid (bB 3 f (n-1-(i+1)) (i+1+1) (i+1)=bD 3 f n):=by show _=_;rw[←HL.out,show n-1-i=(n-1-(i+1))+1 by omega,bB,if_pos hord]
    clear hq HL hord;refine aG (by kernel_rfl) (by kernel_rfl) ?_;repeat(go_big_quiet_step (first|(go_at_call 105;exact aJ (jV _ _ _ _ _ HOI.out))|(go_at_call 105;exact aJ (jV _ _ _ _ _ HOJ.out))))
    refine wpQuiet_nil ?_;rintro _ ⟨v,rfl⟩;have BV:=aA (BQ.out.trans (v.2.mono BQ.out.size))
    have ZV:=aA (ZQ.out.below v.2);have LV:=aA (LQ.out.below v.2)
    have TV:=aA (TQ.out.below v.2);obtain⟨u,hu⟩:∃u,v.1=u:=⟨_,rfl⟩
    rw[hu]at BV ZV LV TV⊢;clear hu s1 s2 s3 s4 t1 t2 t3 t4 ne v;obtain⟨q0,q1,q2,q3,q4⟩:=TV.out;obtain⟨⟨l0,l1,l2,l3,l4⟩,lz⟩:=LV.out;go_wp2;go_roundw
    case rel=>
     refine⟨i+1,i+1,by omega,hi1,by go_num,cE BV.out (by omega) _ _ _ _ _,ZV.out.far (by omega),⟨⟨by go_simp,by go_simp,by go_simp,by go_simp,by go_simp⟩,fun j=>by go_simp⟩,HN⟩
    case measure=>simp[intOf];omega
   ·have dq:decide (xT ⟨(f j).m.x,(f j).m.y,(f j).m.d,(f j).m.e⟩<xT ⟨(f (i+1)).m.x,(f (i+1)).m.y,(f (i+1)).m.d,(f (i+1)).m.e⟩)=false:=decide_eq_false hq;have hord:¬0<M.ord 3 (f (i+1)).m (f j).m:=by rw[←KQ HOI.out HOJ.out];exact fun h=>hq (xZ.1 h)
    have HN:Hid (bB 3 f (n-1-(i+1)) (i+1+1) j=bD 3 f n):=by show _=_;rw[←HL.out,show n-1-i=(n-1-(i+1))+1 by omega,bB,if_neg hord]
    clear hq HL hord;refine aG (by kernel_rfl) (by kernel_rfl) ?_;repeat(go_big_quiet_step (first|(go_at_call 105;exact aJ (jV _ _ _ _ _ HOI.out))|(go_at_call 105;exact aJ (jV _ _ _ _ _ HOJ.out))))
    refine wpQuiet_nil ?_;rintro _ ⟨v,rfl⟩;have BV:=aA (BQ.out.trans (v.2.mono BQ.out.size))
    have ZV:=aA (ZQ.out.below v.2);have LV:=aA (LQ.out.below v.2)
    obtain⟨u,hu⟩:∃u,v.1=u:=⟨_,rfl⟩
    rw[hu]at BV ZV LV⊢;clear hu s1 s2 s3 s4 t1 t2 t3 t4 ne v;go_wp2;go_roundw;case rel=>exact⟨i+1,j,by omega,hj,by go_num,BV.out,ZV.out,LV.out,HN⟩
    case measure=>simp[intOf];omega
  ·have hjl:Hid (f j=t):=by show _=_;rw[HT.out,←HL.out,show n-1-i=0 by omega];rfl
   have hin:¬(i:Int)<((n-1:Nat):Int):=by omega
   obtain⟨⟨z0,z1,z2,z3,z4⟩,fz⟩:=HZ.out;obtain⟨⟨l0,l1,l2,l3,l4⟩,_⟩:=HLE.out;simp only[cB]at z0 z1 z2 z3 z4;rw[hjl.out]at l0 l1 l2 l3 l4;clear HL HZ HLE;go_wp2;refine bY (v:=.tuple #[.agg #[.int .i64 t.c,.int .i64 t.m.x,.int .i64 t.m.y,.int .i64 t.m.d,.int .i64 t.m.e],.bool true]) (by simp[results,Tryz.results23,go_sem, *]) rfl ⟨rfl,?_⟩;exact cE hB (Nat.le_refl _) _ _ _ _ _
theorem kV (w:World) (o:Int) (a:Option Addr) (n cap:Nat) (f:Nat→T) (h:Rd w a n cap f):Calls Tryz.prog 23 #[.int .i64 o,.slice a n cap] w fun r w'=>r= .returned (.tuple #[.agg #[.int .i64 (bQ o n f).c,.int .i64 (bQ o n f).m.x,.int .i64 (bQ o n f).m.y,.int .i64 (bQ o n f).m.d,.int .i64 (bQ o n f).m.e],.bool (bF o n f)])∧Below w.heap.size w w':=by
 by_cases ho:1≤o∧o≤3
 ·obtain⟨o1,o2⟩:=ho;by_cases hn0:n=0
  ·have e1:bF o n f=false:=by simp[bF,hn0]
   rw[wP e1,e1];clear e1;subst hn0;clear h;go_enter Tryz.func23,Tryz.ntmps23;go_wp2_with fail;refine(iA _ _ o1 o2).mono ?_;rintro r w1 ⟨fv,rfl,hb1⟩;obtain⟨hc1,hf1⟩:=aP hb1;have B1:=aA (aB (aC w _) hb1)
   clear hb1;go_wp2;refine bY (v:=.tuple #[.agg #[.int .i64 0,.int .i64 0,.int .i64 0,.int .i64 0,.int .i64 0],.bool false]) (by simp[results,Tryz.results23,go_sem, *]) rfl ⟨rfl,?_⟩;exact cE B1.out (by omega) _ _ _ _ _
  ·cases hp:aN n f
   ·have e1:bF o n f=false:=by simp[bF,hp]
    rw[wP e1,e1];clear e1;have HR:=aA h
    have hn:(n:Int)≤140737488351232:=by have:=h.2.1;omega
    have hne:((n:Int)==0)=false:=by simp;omega
    clear h hn0;go_enter Tryz.func23,Tryz.ntmps23;go_wp2_with fail;refine(iA _ _ o1 o2).mono ?_;rintro r w1 ⟨fv,rfl,hb1⟩;obtain⟨hc1,hf1⟩:=aP hb1;have B1:=aA (aB (aC w _) hb1)
    have hz1:w.heap.size<w1.heap.size:=by have:=hb1.size;simp at this;omega
    clear hb1;go_wp2_with fail;refine(eO _ _ _ _ f (HR.out.below B1.out)).mono ?_;rw[hp];rintro r w2 ⟨rfl,hb2⟩;obtain⟨hc2,hf2⟩:=aP hb2;have B2:=aA (aB B1.out hb2)
    clear hb2;go_wp2;refine bY (v:=.tuple #[.agg #[.int .i64 0,.int .i64 0,.int .i64 0,.int .i64 0,.int .i64 0],.bool false]) (by simp[results,Tryz.results23,go_sem, *]) rfl ⟨rfl,?_⟩;exact cE B2.out (by omega) _ _ _ _ _
   ·have ho3:o=1∨o=2∨o=3:=by omega
    rcases ho3 with rfl|rfl|rfl
    ·exact YR w a n cap f h hp (by omega)
    ·exact YS w a n cap f h hp (by omega)
    ·exact YT w a n cap f h hp (by omega)
 ·have e1:bF o n f=false:=by simp[bF,ho]
  rw[wP e1,e1];have ho':o<1∨3<o:=by omega
  clear e1 ho h;go_enter Tryz.func23,Tryz.ntmps23;go_wp2_with fail;refine(nC _ _ ho').mono ?_;rintro r w1 ⟨rfl,hb1⟩;obtain⟨hc1,hf1⟩:=aP hb1;have B1:=aA (aB (aC w _) hb1)
  clear hb1;go_wp2;refine bY (v:=.tuple #[.agg #[.int .i64 0,.int .i64 0,.int .i64 0,.int .i64 0,.int .i64 0],.bool false]) (by simp[results,Tryz.results23,go_sem, *]) rfl ⟨rfl,?_⟩;exact cE B1.out (by omega) _ _ _ _ _
open Go.RowKit Go.Deep Go.Joins
def cZ (w:World) (a:Option Addr) (n cap:Nat) (ad:Nat→Option Addr) (ln cp:Nat→Nat) (f:Nat→Nat→T):Prop:=
 n≤cap∧n*40≤140737488351232∧(n=0∨∃b off,a=some ⟨b,off,none⟩∧b<w.heap.size∧∀i,i<n→w.cell? ⟨b,off+i,none⟩=some (.slice (ad i) (ln i) (cp i)))∧∀i,i<n→Rd w (ad i) (ln i) (cp i) (f i)
theorem cZ.below {w w':World} {a:Option Addr} {n cap:Nat} {ad:Nat→Option Addr} {ln cp:Nat→Nat} {f:Nat→Nat→T} (h:cZ w a n cap ad ln cp f) (hb:Below w.heap.size w w'):cZ w' a n cap ad ln cp f:=by
 refine⟨h.1,h.2.1,?_,fun i hi=>(h.2.2.2 i hi).below hb⟩;rcases h.2.2.1 with h0|⟨b,off,he,hlt,hc⟩
 ·exact .inl h0
 ·exact .inr ⟨b,off,he,jY hlt hb.size,fun i hi=>(hb.cell (p:=⟨b,off+i,none⟩) hlt).trans (hc i hi)⟩
def aT (n:Nat) (ln:Nat→Nat) (f:Nat→Nat→T):Bool:=decide (n≤12∧∀i,i<n→ln i≠0∧aN (ln i) (f i)=true)
theorem Df (w:World) (a:Option Addr) (n cap:Nat) (ad:Nat→Option Addr) (ln cp:Nat→Nat) (f:Nat→Nat→T) (h:cZ w a n cap ad ln cp f):Calls Tryz.prog 91 #[.slice a n cap] w fun r w'=>r= .returned (.bool (aT n ln f))∧Below w.heap.size w w':=by
 have hn:(n:Int)≤140737488351232:=by have:=h.2.1;omega
 have HH:=aA h;clear h;by_cases hbig:12<n
 ·have e:aT n ln f=false:=decide_eq_false (fun hh=>by omega);have hb:(12:Int)<(n:Int):=by omega
  rw[e];go_enter Tryz.func91,Tryz.ntmps91;go_wp2;go_ret;exact⟨rfl,bL _ _⟩
 ·have hnb:¬(12:Int)<(n:Int):=by omega
  go_enter Tryz.func91,Tryz.ntmps91;go_wp2;go_loopw [10] (fun v wr=>∃i:Nat,i≤n∧v= .int .i64 (i:Int)∧Below w.heap.size w wr∧∀j,j<i→ln j≠0∧aN (ln j) (f j)=true) (fun v _=>n-(intOf v).toNat);case atStart=>exact⟨0,Nat.zero_le _,rfl,bL _ _,fun j hj=>by omega⟩
  case round=>
   obtain⟨i,hi,rfl,hB,hJ⟩:=hrel;by_cases hlt:i<n
   ·rcases HH.out.2.2.1 with h0|⟨b,off,rfl,hblt,hcl⟩
    ·omega
    have hil:(i:Int)<(n:Int):=by omega
    have g0:wr.cell? ⟨b,off+i,none⟩=some (.slice (ad i) (ln i) (cp i)):=(hB.cell (p:=⟨b,off+i,none⟩) hblt).trans (hcl i hlt);have HK:=aA ((HH.out.2.2.2 i hlt).below hB)
    have HB:=aA hB;have HJ:=aA hJ
    clear hcl hB hJ;by_cases h0:ln i=0
    ·have HE:Hid (aT n ln f=false):=decide_eq_false (fun hh=>(hh.2 i hlt).1 h0);have hz:((ln i:Int)==0)=true:=by rw[h0];rfl
     clear h0;go_wp2;go_ret;exact⟨congrArg (fun z=>Ending.returned (Value.bool z)) HE.out.symm,HB.out⟩
    ·have hz:((ln i:Int)==0)=false:=by rw[beq_eq_false_iff_ne];omega
     have HZ:=aA h0;clear h0;cases hp:aN (ln i) (f i)
     ·have HE:Hid (aT n ln f=false):=decide_eq_false (fun hh=>by have:=(hh.2 i hlt).2;rw[hp]at this;cases this);go_wp2_with fail;refine(eO _ _ _ _ (f i) HK.out).mono ?_;rw[hp];rintro r w1 ⟨rfl,hb⟩;have HB1:=aA (aB HB.out hb)
      clear hb;go_wp2;go_ret;exact⟨congrArg (fun z=>Ending.returned (Value.bool z)) HE.out.symm,HB1.out⟩
     ·go_wp2_with fail;refine(eO _ _ _ _ (f i) HK.out).mono ?_;rw[hp];rintro r w1 ⟨rfl,hb⟩;have HB1:=aA (aB HB.out hb)
      clear hb;go_wp2;go_roundw
      case rel=>exact⟨i+1,by omega,by go_num,HB1.out,fun j hj=>by
       by_cases e:j=i
       ·rw[e];exact⟨HZ.out,hp⟩
       ·exact HJ.out j (by omega)⟩
      case measure=>simp[intOf];omega
   ·have hnl:¬(i:Int)<(n:Int):=by omega
    have hie:i=n:=by omega
    subst hie;have HE:Hid (aT i ln f=true):=decide_eq_true ⟨by omega,hJ⟩
    have HB:=aA hB;clear hB hJ;go_wp2;go_ret;exact⟨congrArg (fun z=>Ending.returned (Value.bool z)) HE.out.symm,HB.out⟩
theorem kE (w:World) (a:Option Addr) (n cap:Nat) (ad:Nat→Option Addr) (ln cp:Nat→Nat) (f:Nat→Nat→T) (h:cZ w a n cap ad ln cp f):Calls Tryz.prog 25 #[.slice a n cap] w fun r w'=>r= .returned (.bool (aT n ln f))∧Below w.heap.size w w':=by
 have hn:(n:Int)≤140737488351232:=by have:=h.2.1;omega
 have HH:=aA h;clear h;by_cases hbig:12<n
 ·have e:aT n ln f=false:=decide_eq_false (fun hh=>by omega);have hb:(12:Int)<(n:Int):=by omega
  rw[e];go_enter Tryz.func25,Tryz.ntmps25;go_wp2;go_ret;exact⟨rfl,bL _ _⟩
 ·have hnb:¬(12:Int)<(n:Int):=by omega
  go_enter Tryz.func25,Tryz.ntmps25;go_wp2;go_loopw [3] (fun v wr=>∃i:Nat,i≤n∧v= .int .i64 (i:Int)∧Below w.heap.size w wr∧∀j,j<i→ln j≠0∧aN (ln j) (f j)=true) (fun v _=>n-(intOf v).toNat);case atStart=>exact⟨0,Nat.zero_le _,rfl,bL _ _,fun j hj=>by omega⟩
  case round=>
   obtain⟨i,hi,rfl,hB,hJ⟩:=hrel;by_cases hlt:i<n
   ·rcases HH.out.2.2.1 with h0|⟨b,off,rfl,hblt,hcl⟩
    ·omega
    have hil:(i:Int)<(n:Int):=by omega
    have g0:wr.cell? ⟨b,off+i,none⟩=some (.slice (ad i) (ln i) (cp i)):=(hB.cell (p:=⟨b,off+i,none⟩) hblt).trans (hcl i hlt);have HG:Hid (∀w',Below wr.heap.size wr w'→w'.cell? ⟨b,off+i,none⟩=some (.slice (ad i) (ln i) (cp i))):=fun w' hb=>(hb.cell (p:=⟨b,off+i,none⟩) (jY hblt hB.size)).trans g0
    have HK:=aA ((HH.out.2.2.2 i hlt).below hB);have HB:=aA hB
    have HJ:=aA hJ;clear hcl hB hJ;cases hp:aN (ln i) (f i)
    ·have HE:Hid (aT n ln f=false):=decide_eq_false (fun hh=>by have:=(hh.2 i hlt).2;rw[hp]at this;cases this);go_wp2_with fail;refine(kI _ _ _ _ (f i) HK.out).mono ?_;rw[hp];rintro r w1 ⟨rfl,hb⟩;have HB1:=aA (aB HB.out hb)
     clear hb;go_wp2;go_ret;exact⟨congrArg (fun z=>Ending.returned (Value.bool z)) HE.out.symm,HB1.out⟩
    ·go_wp2_with fail;refine(kI _ _ _ _ (f i) HK.out).mono ?_;rw[hp];rintro r w1 ⟨rfl,hb⟩;have HB1:=aA (aB HB.out hb)
     have g1:=HG.out w1 hb;clear hb g0;by_cases h0:ln i=0
     ·have HE:Hid (aT n ln f=false):=decide_eq_false (fun hh=>(hh.2 i hlt).1 h0);have hz:((ln i:Int)==0)=true:=by rw[h0];rfl
      clear h0;go_wp2;go_ret;exact⟨congrArg (fun z=>Ending.returned (Value.bool z)) HE.out.symm,HB1.out⟩
     ·have hz:((ln i:Int)==0)=false:=by rw[beq_eq_false_iff_ne];omega
      have HZ:=aA h0;clear h0;go_wp2;go_roundw
      case rel=>exact⟨i+1,by omega,by go_num,HB1.out,fun j hj=>by
       by_cases e:j=i
       ·rw[e];exact⟨HZ.out,hp⟩
       ·exact HJ.out j (by omega)⟩
      case measure=>simp[intOf];omega
   ·have hnl:¬(i:Int)<(n:Int):=by omega
    have hie:i=n:=by omega
    subst hie;have HE:Hid (aT i ln f=true):=decide_eq_true ⟨by omega,hJ⟩
    have HB:=aA hB;clear hB hJ;go_wp2;go_ret;exact⟨congrArg (fun z=>Ending.returned (Value.bool z)) HE.out.symm,HB.out⟩
end Go.Proofs.YtdidlcjhodejjaaGreat
namespace Go.Proofs.YtdidlcjhodejjaaGreat
open Go.RowKit
set_option linter.unusedVariables false
def eF (a b:M):Bool:=decide (a.x=b.x∧a.y=b.y∧a.d=b.d∧a.e=b.e)
theorem cM {a b:M}:eF a b=true↔a=b:=by cases a;cases b;simp[eF]
theorem Jh {a b:M}:eF a b=false↔a≠b:=by rw[←Bool.not_eq_true,cM]
theorem Mt {p q y z:Int} (hy:0≤y∧y≤15) (hz:0≤z∧z≤15) (h:p*16+y=q*16+z):p=q∧y=z:=by omega
theorem Sy {p q y z:Int} (hy:0≤y∧y≤65535) (hz:0≤z∧z≤65535) (h:p*65536+y=q*65536+z):y=z:=by omega
theorem KN {a b:M} (ha:a.ok=true) (hb:b.ok=true) (h:fF a=fF b):a=b:=by
 have ka:=M.ok_iff.1 ha;have kb:=M.ok_iff.1 hb
 have la:0≤iF a∧iF a≤65535:=by unfold iF;omega
 have lb:0≤iF b∧iF b≤65535:=by unfold iF;omega
 unfold fF at h;have h:=Sy la lb h
 unfold iF at h;obtain⟨h,h1⟩:=Mt ⟨ka.2.2.1,ka.2.2.2.1⟩ ⟨kb.2.2.1,kb.2.2.2.1⟩ h;obtain⟨h,h2⟩:=Mt ⟨ka.1,ka.2.1⟩ ⟨kb.1,kb.2.1⟩ h;obtain⟨h,h3⟩:=Mt ⟨ka.2.2.2.2.2.2.1,ka.2.2.2.2.2.2.2⟩ ⟨kb.2.2.2.2.2.2.1,kb.2.2.2.2.2.2.2⟩ h;cases a;cases b;simp only at h h1 h2 h3;subst h h1 h2 h3;rfl
def aM:List T→M→Int
 |[],_=>0
 |t::r,m=>if eF t.m m=true then t.c else aM r m
def aK (L:List T):Prop:=L.Pairwise (fun a b=>fF b.m<fF a.m)∧∀t∈L,t.m.ok=true∧1≤t.c∧t.c≤100
theorem nJ {m:M}:∀{L:List T},(∀t∈L,fF t.m<fF m)→aM L m=0
 |[],_=>rfl
 |t::r,h=>by have h1:=h t (List.mem_cons_self ..);rw[aM,if_neg (fun e=>by rw[cM.1 e]at h1;omega)];exact nJ (fun s hs=>h s (List.mem_cons_of_mem _ hs))
theorem iI {t:T} {r:List T} {m:M} (h:t.m≠m):aM (t::r) m=aM r m:=by rw[aM,if_neg (fun e=>h (cM.1 e))]
theorem bO (t:T) (r:List T):aM (t::r) t.m=t.c:=by rw[aM,if_pos (cM.2 rfl)]
theorem aK.tail {t:T} {r:List T} (h:aK (t::r)):aK r:=⟨(List.pairwise_cons.1 h.1).2,fun s hs=>h.2 s (List.mem_cons_of_mem _ hs)⟩
theorem aK.head {t:T} {r:List T} (h:aK (t::r)):∀s∈r,fF s.m<fF t.m:=(List.pairwise_cons.1 h.1).1
theorem lI:∀{L K:List T},aK L→aK K→(∀m,m.ok=true→aM L m=aM K m)→L=K
 |[],[],_,_,_=>rfl
 |[],t::r,_,hK,h=>by
  have h1:=hK.2 t (List.mem_cons_self ..);have h2:=h t.m h1.1
  rw[bO,aM]at h2;omega
 |t::r,[],hL,_,h=>by
  have h1:=hL.2 t (List.mem_cons_self ..);have h2:=h t.m h1.1
  rw[bO,aM]at h2;omega
 |s::p,t::r,hL,hK,h=>by
  have hs:=hL.2 s (List.mem_cons_self ..);have ht:=hK.2 t (List.mem_cons_self ..)
  rcases Int.lt_trichotomy (fF s.m) (fF t.m)with hlt|heq|hgt
  ·have h2:=h t.m ht.1
   rw[bO,nJ (fun u hu=>by
    rcases List.mem_cons.1 hu with rfl|hu
    ·exact hlt
    ·have:=hL.head u hu;omega)]at h2
   omega
  ·have hm:s.m=t.m:=KN hs.1 ht.1 heq;have hc:s.c=t.c:=by have h2:=h s.m hs.1;rw[bO,hm,bO]at h2;exact h2
   have hst:s=t:=by cases s;cases t;simp only at hm hc;subst hm hc;rfl
   subst hst;have hrest:∀m,m.ok=true→aM p m=aM r m:=fun m hok=>by
    by_cases hm2:s.m=m
    ·subst hm2;rw[nJ hL.head,nJ hK.head]
    ·have h2:=h m hok;rw[iI hm2,iI hm2]at h2;exact h2
   rw[lI hL.tail hK.tail hrest]
  ·have h2:=h s.m hs.1
   rw[bO,nJ (fun u hu=>by
    rcases List.mem_cons.1 hu with rfl|hu
    ·exact hgt
    ·have:=hK.head u hu;omega)]at h2
   omega
end Go.Proofs.YtdidlcjhodejjaaGreat
