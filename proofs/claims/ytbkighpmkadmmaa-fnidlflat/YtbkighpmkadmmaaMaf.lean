/-
  More of the program's chapter 3: whether an operator has no slopes, so many times an operator.
-/
import Derived.Test.YtbkighpmkadmmaaMae
set_option maxHeartbeats 8000000
set_option maxRecDepth 100000
namespace Go.Proofs.Ytbkighpmkadmmaa
open Go.RowKit
set_option linter.unusedVariables false
theorem AZ (w:World) (lo:Nat):w.ownsRow lo 33 5 (.slice none 0 0) 0 (aG []):=⟨rfl,.inl ⟨rfl,rfl⟩⟩
theorem EW {w w':World} {b:Nat} {v0 v1 v2 v3 v4:Value} (hb:Below w.heap.size w w') (h:w.cell? ⟨b,0,none⟩=some v0∧w.cell? ⟨b,1,none⟩=some v1∧w.cell? ⟨b,2,none⟩=some v2∧w.cell? ⟨b,3,none⟩=some v3∧w.cell? ⟨b,4,none⟩=some v4):w'.cell? ⟨b,0,none⟩=some v0∧w'.cell? ⟨b,1,none⟩=some v1∧w'.cell? ⟨b,2,none⟩=some v2∧w'.cell? ⟨b,3,none⟩=some v3∧w'.cell? ⟨b,4,none⟩=some v4:=by have hl:b<w.heap.size:=fG w _ h.1;exact⟨(hb.cell (p:=⟨b,0,none⟩) hl).trans h.1,(hb.cell (p:=⟨b,1,none⟩) hl).trans h.2.1,(hb.cell (p:=⟨b,2,none⟩) hl).trans h.2.2.1,(hb.cell (p:=⟨b,3,none⟩) hl).trans h.2.2.2.1,(hb.cell (p:=⟨b,4,none⟩) hl).trans h.2.2.2.2⟩
def aX (o:Int) (n:Nat) (f:Nat→T):Bool:=decide (1≤o∧o≤3)&&aL n f&&decide (0<n)
def bB (o:Int) (n:Nat) (f:Nat→T):T:=if aX o n f=true then f (aP o f n)else⟨0,⟨0,0,0,0⟩⟩
theorem pY {o:Int} {n:Nat} {f:Nat→T} (h:aX o n f=false):bB o n f=⟨0,⟨0,0,0,0⟩⟩:=by rw[bB,if_neg (by rw[h];decide)]
theorem cS {o:Int} {n:Nat} {f:Nat→T} (h:aX o n f=true):bB o n f=f (aP o f n):=by rw[bB,if_pos h]
theorem nJ {a b:Int}:0<c3 a b↔b<a:=by
 unfold c3;constructor
 ·intro h;split at h
  ·omega
  ·split at h<;>omega
 ·intro h;rw[if_neg (by omega),if_pos h];decide
def C5 (w:World) (b:Nat) (t:T):Prop:=
 w.cell? ⟨b,0,none⟩=some (.int .i64 t.c)∧w.cell? ⟨b,1,none⟩=some (.int .i64 t.m.x)∧w.cell? ⟨b,2,none⟩=some (.int .i64 t.m.y)∧w.cell? ⟨b,3,none⟩=some (.int .i64 t.m.d)∧w.cell? ⟨b,4,none⟩=some (.int .i64 t.m.e)
theorem C5.lt {w:World} {b:Nat} {t:T} (h:C5 w b t):b<w.heap.size:=fG w _ h.1
theorem C5.below {w w':World} {b:Nat} {t:T} (h:C5 w b t) (hb:Below w.heap.size w w'):C5 w' b t:=EW hb h
theorem C5.box (w:World) (y:TypeId) (t:T):C5 (w.alloc (.cells #[.int .i64 t.c,.int .i64 t.m.x,.int .i64 t.m.y,.int .i64 t.m.d,.int .i64 t.m.e] y)) w.heap.size t:=
 ⟨by rw[World.cell?_alloc_at _ _ _ _ rfl];rfl,by rw[World.cell?_alloc_at _ _ _ _ rfl];rfl,by rw[World.cell?_alloc_at _ _ _ _ rfl];rfl,by rw[World.cell?_alloc_at _ _ _ _ rfl];rfl,by rw[World.cell?_alloc_at _ _ _ _ rfl];rfl⟩
theorem lE {w:World} {B b o:Nat} {v0 v1 v2 v3 v4:Value} (h:b≠B):(((((w.setCell ⟨B,0,none⟩ v0).setCell ⟨B,1,none⟩ v1).setCell ⟨B,2,none⟩ v2).setCell ⟨B,3,none⟩ v3).setCell ⟨B,4,none⟩ v4).cell? ⟨b,o,none⟩=w.cell? ⟨b,o,none⟩:=by refine mC ?_;rw[Below.heap_setCell _ _ _ _ h,Below.heap_setCell _ _ _ _ h,Below.heap_setCell _ _ _ _ h,Below.heap_setCell _ _ _ _ h,Below.heap_setCell _ _ _ _ h]
theorem LT {w:World} {B b o:Nat} {v0 v1 v2 v3 v4:Value} (h:b≠B):(((((w.setCell ⟨B,0,none⟩ v0).setCell ⟨B,1,none⟩ v1).setCell ⟨B,2,none⟩ v2).setCell ⟨B,3,none⟩ v3).setCell ⟨B,4,none⟩ v4).frozen? ⟨b,o,none⟩=w.frozen? ⟨b,o,none⟩:=by refine World.frozen?_of_block ?_;rw[Below.heap_setCell _ _ _ _ h,Below.heap_setCell _ _ _ _ h,Below.heap_setCell _ _ _ _ h,Below.heap_setCell _ _ _ _ h,Below.heap_setCell _ _ _ _ h]
def bI (w:World) (b:Nat) (t:T):Prop:=C5 w b t∧∀j,w.frozen? ⟨b,j,none⟩=false
theorem bI.below {w w':World} {b:Nat} {t:T} (h:bI w b t) (hb:Below w.heap.size w w'):bI w' b t:=⟨h.1.below hb,fun j=>(hb.frozen (p:=⟨b,j,none⟩) h.1.lt).trans (h.2 j)⟩
theorem bI.box (w:World) (y:TypeId) (t:T):bI (w.alloc (.cells #[.int .i64 t.c,.int .i64 t.m.x,.int .i64 t.m.y,.int .i64 t.m.d,.int .i64 t.m.e] y)) w.heap.size t:=
 ⟨C5.box w y t,fun j=>by rw[World.frozen?_alloc_at _ _ _ _ rfl]⟩
theorem bI.far {w:World} {B b:Nat} {t:T} {v0 v1 v2 v3 v4:Value} (m:bI w b t) (h:b≠B):bI (((((w.setCell ⟨B,0,none⟩ v0).setCell ⟨B,1,none⟩ v1).setCell ⟨B,2,none⟩ v2).setCell ⟨B,3,none⟩ v3).setCell ⟨B,4,none⟩ v4) b t:=
 ⟨⟨(lE h).trans m.1.1,(lE h).trans m.1.2.1,(lE h).trans m.1.2.2.1,(lE h).trans m.1.2.2.2.1,(lE h).trans m.1.2.2.2.2⟩,fun j=>(LT h).trans (m.2 j)⟩
def bQ:T:=⟨0,⟨0,0,0,0⟩⟩
theorem BD (w:World) (a:Option Addr) (n cap:Nat) (f:Nat→T) (h:Rd w a n cap f) (hp:aL n f=true) (hpos:0<n):Calls Try.prog 34 #[.int .i64 1,.slice a n cap] w fun r w'=>r= .returned (.tuple #[.agg #[.int .i64 (bB 1 n f).c,.int .i64 (bB 1 n f).m.x,.int .i64 (bB 1 n f).m.y,.int .i64 (bB 1 n f).m.d,.int .i64 (bB 1 n f).m.e],.bool (aX 1 n f)])∧Below w.heap.size w w':=by
 have HR:=aA h;obtain⟨h1,h2,h3⟩:=h;have hn:(n:Int)≤140737488351232:=by omega
 have e1:aX 1 n f=true:=by simp[aX,hp,hpos]
 rw[cS e1,e1];clear e1;have hne:((n:Int)==0)=false:=by simp;omega
 have HM:=aA (mX hp);obtain⟨t,ht⟩:∃t,t=f (aP 1 f n):=⟨_,rfl⟩
 rw[←ht];have HT:=aA ht
 obtain⟨b,off,rfl,hblt,hcl⟩:=h3.resolve_left (by omega);have HCL:=aA hcl
 clear ht h3 hcl;have hn1:(0:Int)<(n:Int):=by omega
 have hn2:(1:Int)≤(n:Int):=by omega
 have hn3:(1:Int)≤(cap:Int):=by omega
 have hn4:(n:Int)≤(cap:Int):=by omega
 have hn5:1≤n:=by omega
 have hn6:1≤cap:=by omega
 by_cases hc1:cap=1
 ·obtain rfl:n=1:=by omega
  subst hc1;have ht0:t=f 0:=HT.out
  subst ht0;go_enter Try.func34,Try.ntmps34;go_wp2_with fail;refine(nU _).mono ?_;rintro r w1 ⟨rfl,hb1⟩;have B1:=aA (aB (aC w _) hb1)
  have Z1:=aA ((bI.box w 33 bQ).below hb1);clear hb1;go_wp2_with fail;refine(iL _ _ _ _ f (HR.out.below B1.out)).mono ?_;rw[hp];rintro r w2 ⟨rfl,hb2⟩;have B2:=aA (aB B1.out hb2)
  have Z2:=aA (Z1.out.below hb2);have zw2:w.heap.size<w2.heap.size:=Z2.out.1.lt
  clear hb2 Z1 HR;obtain⟨g0,g1,g2,g3,g4⟩:=(HCL.out 0 hpos).below B2.out hblt;simp only[Nat.zero_mul,Nat.add_zero]at g0 g1 g2 g3 g4;go_wp2;have B3:=aA (B2.out.alloc B2.out.size (.cells #[.int .i64 (f 0).c,.int .i64 (f 0).m.x,.int .i64 (f 0).m.y,.int .i64 (f 0).m.d,.int .i64 (f 0).m.e] 33))
  have Z3:=aA (Z2.out.below (aC w2 (.cells #[.int .i64 (f 0).c,.int .i64 (f 0).m.x,.int .i64 (f 0).m.y,.int .i64 (f 0).m.d,.int .i64 (f 0).m.e] 33)));have L3:=aA (bI.box w2 33 (f 0))
  clear g0 g1 g2 g3 g4 Z2;go_loopw [35] (fun ii wr=>ii= .int .i64 0∧Below w.heap.size w wr∧bI wr w.heap.size bQ∧bI wr w2.heap.size (f 0)) (fun _ _=>0);case atStart=>exact⟨rfl,B3.out,Z3.out,L3.out⟩
  case round=>
   obtain⟨rfl,hB,hZ,hL⟩:=hrel;obtain⟨⟨z0,z1,z2,z3,z4⟩,fz⟩:=hZ;obtain⟨⟨l0,l1,l2,l3,l4⟩,_⟩:=hL;simp only[bQ]at z0 z1 z2 z3 z4;go_wp2;refine cN (v:=.tuple #[.agg #[.int .i64 (f 0).c,.int .i64 (f 0).m.x,.int .i64 (f 0).m.y,.int .i64 (f 0).m.d,.int .i64 (f 0).m.e],.bool true]) (by simp[results,Try.results34,go_sem, *]) rfl ⟨rfl,?_⟩;exact bU hB (Nat.le_refl _) _ _ _ _ _
 go_enter Try.func34,Try.ntmps34;go_wp2_with fail;refine(nU _).mono ?_;rintro r w1 ⟨rfl,hb1⟩;have B1:=aA (aB (aC w _) hb1)
 have Z1:=aA ((bI.box w 33 bQ).below hb1);clear hb1;go_wp2_with fail;refine(iL _ _ _ _ f (HR.out.below B1.out)).mono ?_;rw[hp];rintro r w2 ⟨rfl,hb2⟩;have B2:=aA (aB B1.out hb2)
 have Z2:=aA (Z1.out.below hb2);have zw2:w.heap.size<w2.heap.size:=Z2.out.1.lt
 have bw2:b<w2.heap.size:=lD hblt B2.out.size;clear hb2 Z1 HR;obtain⟨g0,g1,g2,g3,g4⟩:=(HCL.out 0 hpos).below B2.out hblt;simp only[Nat.zero_mul,Nat.add_zero]at g0 g1 g2 g3 g4;go_wp2;have B3:=aA (B2.out.alloc B2.out.size (.cells #[.int .i64 (f 0).c,.int .i64 (f 0).m.x,.int .i64 (f 0).m.y,.int .i64 (f 0).m.d,.int .i64 (f 0).m.e] 33))
 have Z3:=aA (Z2.out.below (aC w2 (.cells #[.int .i64 (f 0).c,.int .i64 (f 0).m.x,.int .i64 (f 0).m.y,.int .i64 (f 0).m.d,.int .i64 (f 0).m.e] 33)));have L3:=aA (bI.box w2 33 (f 0))
 clear g0 g1 g2 g3 g4 Z2;go_loopw [35] (fun ii wr=>∃i j:Nat,i≤n-1∧j<n∧ii= .int .i64 i∧Below w.heap.size w wr∧bI wr w.heap.size bQ∧bI wr w2.heap.size (f j)∧Hid (aR 1 f (n-1-i) (i+1) j=aP 1 f n)) (fun ii _=>n-(intOf ii).toNat);case atStart=>exact⟨0,0,gT _,hpos,rfl,B3.out,Z3.out,L3.out,rfl⟩
 case round=>
  obtain⟨i,j,hi,hj,rfl,hB,hZ,hL,HL⟩:=hrel;have HZ:=aA hZ
  have HLE:=aA hL;have zwr:w2.heap.size<wr.heap.size:=hL.1.lt
  clear hZ hL;by_cases hlt:i<n-1
  ·have hi1:i+1<n:=by omega
   have hin:(i:Int)<((n-1:Nat):Int):=by omega
   obtain⟨g0,g1,g2,g3,g4⟩:=(HCL.out (i+1) hi1).below hB hblt;rw[show off+(i+1)*5=off+5+i*5 by omega]at g0 g1 g2 g3 g4;have HOI:=aA (HM.out (i+1) hi1)
   have HOJ:=aA (HM.out j hj);have BQ:=aA (hB.alloc hB.size (.cells #[.int .i64 (f (i+1)).c,.int .i64 (f (i+1)).m.x,.int .i64 (f (i+1)).m.y,.int .i64 (f (i+1)).m.d,.int .i64 (f (i+1)).m.e] 33))
   have ZQ:=aA (HZ.out.below (aC wr (.cells #[.int .i64 (f (i+1)).c,.int .i64 (f (i+1)).m.x,.int .i64 (f (i+1)).m.y,.int .i64 (f (i+1)).m.d,.int .i64 (f (i+1)).m.e] 33)));have LQ:=aA (HLE.out.below (aC wr (.cells #[.int .i64 (f (i+1)).c,.int .i64 (f (i+1)).m.x,.int .i64 (f (i+1)).m.y,.int .i64 (f (i+1)).m.d,.int .i64 (f (i+1)).m.e] 33)))
   have TQ:=aA (C5.box wr 33 (f (i+1)));go_wp2_with fail;generalize(wr.alloc (.cells #[.int .i64 (f (i+1)).c,.int .i64 (f (i+1)).m.x,.int .i64 (f (i+1)).m.y,.int .i64 (f (i+1)).m.d,.int .i64 (f (i+1)).m.e] 33))=wq at BQ ZQ LQ TQ⊢;clear g0 g1 g2 g3 g4 HZ HLE;have ne:=cG.there wq
   have s1:∀u:cG wq,u.1.cell? ⟨wr.heap.size,1,none⟩=some (.int .i64 (f (i+1)).m.x):=fun u=>(u.cell TQ.out.lt).trans TQ.out.2.1;have s2:∀u:cG wq,u.1.cell? ⟨wr.heap.size,2,none⟩=some (.int .i64 (f (i+1)).m.y):=fun u=>(u.cell TQ.out.lt).trans TQ.out.2.2.1
   have s3:∀u:cG wq,u.1.cell? ⟨wr.heap.size,3,none⟩=some (.int .i64 (f (i+1)).m.d):=fun u=>(u.cell TQ.out.lt).trans TQ.out.2.2.2.1;have s4:∀u:cG wq,u.1.cell? ⟨wr.heap.size,4,none⟩=some (.int .i64 (f (i+1)).m.e):=fun u=>(u.cell TQ.out.lt).trans TQ.out.2.2.2.2
   have t1:∀u:cG wq,u.1.cell? ⟨w2.heap.size,1,none⟩=some (.int .i64 (f j).m.x):=fun u=>(u.cell LQ.out.1.lt).trans LQ.out.1.2.1;have t2:∀u:cG wq,u.1.cell? ⟨w2.heap.size,2,none⟩=some (.int .i64 (f j).m.y):=fun u=>(u.cell LQ.out.1.lt).trans LQ.out.1.2.2.1
   have t3:∀u:cG wq,u.1.cell? ⟨w2.heap.size,3,none⟩=some (.int .i64 (f j).m.d):=fun u=>(u.cell LQ.out.1.lt).trans LQ.out.1.2.2.2.1;have t4:∀u:cG wq,u.1.cell? ⟨w2.heap.size,4,none⟩=some (.int .i64 (f j).m.e):=fun u=>(u.cell LQ.out.1.lt).trans LQ.out.1.2.2.2.2
   by_cases hq:fW (f j).m<fW (f (i+1)).m
   ·have dq:decide (fW ⟨(f j).m.x,(f j).m.y,(f j).m.d,(f j).m.e⟩<fW ⟨(f (i+1)).m.x,(f (i+1)).m.y,(f (i+1)).m.d,(f (i+1)).m.e⟩)=true:=decide_eq_true hq;have hord:0<M.ord 1 (f (i+1)).m (f j).m:=by rw[←qC HOI.out HOJ.out];exact nJ.2 hq
    have HN:Hid (aR 1 f (n-1-(i+1)) (i+1+1) (i+1)=aP 1 f n):=by show _=_;rw[←HL.out,show n-1-i=(n-1-(i+1))+1 by omega,aR,if_pos hord]
    clear hq HL hord;refine aK (by kernel_rfl) (by kernel_rfl) ?_;repeat(go_big_quiet_step (first|(go_at_call 78;exact aM (fR _ _ _ _ _ HOI.out))|(go_at_call 78;exact aM (fR _ _ _ _ _ HOJ.out))))
    refine wpQuiet_nil ?_;rintro _ ⟨v,rfl⟩;have BV:=aA (BQ.out.trans (v.2.mono BQ.out.size))
    have ZV:=aA (ZQ.out.below v.2);have LV:=aA (LQ.out.below v.2)
    have TV:=aA (TQ.out.below v.2);obtain⟨u,hu⟩:∃u,v.1=u:=⟨_,rfl⟩
    rw[hu]at BV ZV LV TV⊢;clear hu s1 s2 s3 s4 t1 t2 t3 t4 ne v;obtain⟨q0,q1,q2,q3,q4⟩:=TV.out;obtain⟨⟨l0,l1,l2,l3,l4⟩,lz⟩:=LV.out;go_wp2;go_roundw
    case rel=>
     refine⟨i+1,i+1,by omega,hi1,by go_num,bU BV.out (by omega) _ _ _ _ _,ZV.out.far (by omega),⟨⟨by go_simp,by go_simp,by go_simp,by go_simp,by go_simp⟩,fun j=>by go_simp⟩,HN⟩
    case measure=>simp[intOf];omega
   ·have dq:decide (fW ⟨(f j).m.x,(f j).m.y,(f j).m.d,(f j).m.e⟩<fW ⟨(f (i+1)).m.x,(f (i+1)).m.y,(f (i+1)).m.d,(f (i+1)).m.e⟩)=false:=decide_eq_false hq;have hord:¬0<M.ord 1 (f (i+1)).m (f j).m:=by rw[←qC HOI.out HOJ.out];exact fun h=>hq (nJ.1 h)
    have HN:Hid (aR 1 f (n-1-(i+1)) (i+1+1) j=aP 1 f n):=by show _=_;rw[←HL.out,show n-1-i=(n-1-(i+1))+1 by omega,aR,if_neg hord]
    clear hq HL hord;refine aK (by kernel_rfl) (by kernel_rfl) ?_;repeat(go_big_quiet_step (first|(go_at_call 78;exact aM (fR _ _ _ _ _ HOI.out))|(go_at_call 78;exact aM (fR _ _ _ _ _ HOJ.out))))
    refine wpQuiet_nil ?_;rintro _ ⟨v,rfl⟩;have BV:=aA (BQ.out.trans (v.2.mono BQ.out.size))
    have ZV:=aA (ZQ.out.below v.2);have LV:=aA (LQ.out.below v.2)
    obtain⟨u,hu⟩:∃u,v.1=u:=⟨_,rfl⟩
    rw[hu]at BV ZV LV⊢;clear hu s1 s2 s3 s4 t1 t2 t3 t4 ne v;go_wp2;go_roundw;case rel=>exact⟨i+1,j,by omega,hj,by go_num,BV.out,ZV.out,LV.out,HN⟩
    case measure=>simp[intOf];omega
  ·have hjl:Hid (f j=t):=by show _=_;rw[HT.out,←HL.out,show n-1-i=0 by omega];rfl
   have hin:¬(i:Int)<((n-1:Nat):Int):=by omega
   obtain⟨⟨z0,z1,z2,z3,z4⟩,fz⟩:=HZ.out;obtain⟨⟨l0,l1,l2,l3,l4⟩,_⟩:=HLE.out;simp only[bQ]at z0 z1 z2 z3 z4;rw[hjl.out]at l0 l1 l2 l3 l4;clear HL HZ HLE;go_wp2;refine cN (v:=.tuple #[.agg #[.int .i64 t.c,.int .i64 t.m.x,.int .i64 t.m.y,.int .i64 t.m.d,.int .i64 t.m.e],.bool true]) (by simp[results,Try.results34,go_sem, *]) rfl ⟨rfl,?_⟩;exact bU hB (Nat.le_refl _) _ _ _ _ _
theorem BE (w:World) (a:Option Addr) (n cap:Nat) (f:Nat→T) (h:Rd w a n cap f) (hp:aL n f=true) (hpos:0<n):Calls Try.prog 34 #[.int .i64 2,.slice a n cap] w fun r w'=>r= .returned (.tuple #[.agg #[.int .i64 (bB 2 n f).c,.int .i64 (bB 2 n f).m.x,.int .i64 (bB 2 n f).m.y,.int .i64 (bB 2 n f).m.d,.int .i64 (bB 2 n f).m.e],.bool (aX 2 n f)])∧Below w.heap.size w w':=by
 have HR:=aA h;obtain⟨h1,h2,h3⟩:=h;have hn:(n:Int)≤140737488351232:=by omega
 have e1:aX 2 n f=true:=by simp[aX,hp,hpos]
 rw[cS e1,e1];clear e1;have hne:((n:Int)==0)=false:=by simp;omega
 have HM:=aA (mX hp);obtain⟨t,ht⟩:∃t,t=f (aP 2 f n):=⟨_,rfl⟩
 rw[←ht];have HT:=aA ht
 obtain⟨b,off,rfl,hblt,hcl⟩:=h3.resolve_left (by omega);have HCL:=aA hcl
 clear ht h3 hcl;have hn1:(0:Int)<(n:Int):=by omega
 have hn2:(1:Int)≤(n:Int):=by omega
 have hn3:(1:Int)≤(cap:Int):=by omega
 have hn4:(n:Int)≤(cap:Int):=by omega
 have hn5:1≤n:=by omega
 have hn6:1≤cap:=by omega
 by_cases hc1:cap=1
 ·obtain rfl:n=1:=by omega
  subst hc1;have ht0:t=f 0:=HT.out
  subst ht0;go_enter Try.func34,Try.ntmps34;go_wp2_with fail;refine(nV _).mono ?_;rintro r w1 ⟨rfl,hb1⟩;have B1:=aA (aB (aC w _) hb1)
  have Z1:=aA ((bI.box w 33 bQ).below hb1);clear hb1;go_wp2_with fail;refine(iL _ _ _ _ f (HR.out.below B1.out)).mono ?_;rw[hp];rintro r w2 ⟨rfl,hb2⟩;have B2:=aA (aB B1.out hb2)
  have Z2:=aA (Z1.out.below hb2);have zw2:w.heap.size<w2.heap.size:=Z2.out.1.lt
  clear hb2 Z1 HR;obtain⟨g0,g1,g2,g3,g4⟩:=(HCL.out 0 hpos).below B2.out hblt;simp only[Nat.zero_mul,Nat.add_zero]at g0 g1 g2 g3 g4;go_wp2;have B3:=aA (B2.out.alloc B2.out.size (.cells #[.int .i64 (f 0).c,.int .i64 (f 0).m.x,.int .i64 (f 0).m.y,.int .i64 (f 0).m.d,.int .i64 (f 0).m.e] 33))
  have Z3:=aA (Z2.out.below (aC w2 (.cells #[.int .i64 (f 0).c,.int .i64 (f 0).m.x,.int .i64 (f 0).m.y,.int .i64 (f 0).m.d,.int .i64 (f 0).m.e] 33)));have L3:=aA (bI.box w2 33 (f 0))
  clear g0 g1 g2 g3 g4 Z2;go_loopw [35] (fun ii wr=>ii= .int .i64 0∧Below w.heap.size w wr∧bI wr w.heap.size bQ∧bI wr w2.heap.size (f 0)) (fun _ _=>0);case atStart=>exact⟨rfl,B3.out,Z3.out,L3.out⟩
  case round=>
   obtain⟨rfl,hB,hZ,hL⟩:=hrel;obtain⟨⟨z0,z1,z2,z3,z4⟩,fz⟩:=hZ;obtain⟨⟨l0,l1,l2,l3,l4⟩,_⟩:=hL;simp only[bQ]at z0 z1 z2 z3 z4;go_wp2;refine cN (v:=.tuple #[.agg #[.int .i64 (f 0).c,.int .i64 (f 0).m.x,.int .i64 (f 0).m.y,.int .i64 (f 0).m.d,.int .i64 (f 0).m.e],.bool true]) (by simp[results,Try.results34,go_sem, *]) rfl ⟨rfl,?_⟩;exact bU hB (Nat.le_refl _) _ _ _ _ _
 go_enter Try.func34,Try.ntmps34;go_wp2_with fail;refine(nV _).mono ?_;rintro r w1 ⟨rfl,hb1⟩;have B1:=aA (aB (aC w _) hb1)
 have Z1:=aA ((bI.box w 33 bQ).below hb1);clear hb1;go_wp2_with fail;refine(iL _ _ _ _ f (HR.out.below B1.out)).mono ?_;rw[hp];rintro r w2 ⟨rfl,hb2⟩;have B2:=aA (aB B1.out hb2)
 have Z2:=aA (Z1.out.below hb2);have zw2:w.heap.size<w2.heap.size:=Z2.out.1.lt
 have bw2:b<w2.heap.size:=lD hblt B2.out.size;clear hb2 Z1 HR;obtain⟨g0,g1,g2,g3,g4⟩:=(HCL.out 0 hpos).below B2.out hblt;simp only[Nat.zero_mul,Nat.add_zero]at g0 g1 g2 g3 g4;go_wp2;have B3:=aA (B2.out.alloc B2.out.size (.cells #[.int .i64 (f 0).c,.int .i64 (f 0).m.x,.int .i64 (f 0).m.y,.int .i64 (f 0).m.d,.int .i64 (f 0).m.e] 33))
 have Z3:=aA (Z2.out.below (aC w2 (.cells #[.int .i64 (f 0).c,.int .i64 (f 0).m.x,.int .i64 (f 0).m.y,.int .i64 (f 0).m.d,.int .i64 (f 0).m.e] 33)));have L3:=aA (bI.box w2 33 (f 0))
 clear g0 g1 g2 g3 g4 Z2;go_loopw [35] (fun ii wr=>∃i j:Nat,i≤n-1∧j<n∧ii= .int .i64 i∧Below w.heap.size w wr∧bI wr w.heap.size bQ∧bI wr w2.heap.size (f j)∧Hid (aR 2 f (n-1-i) (i+1) j=aP 2 f n)) (fun ii _=>n-(intOf ii).toNat);case atStart=>exact⟨0,0,gT _,hpos,rfl,B3.out,Z3.out,L3.out,rfl⟩
 case round=>
  obtain⟨i,j,hi,hj,rfl,hB,hZ,hL,HL⟩:=hrel;have HZ:=aA hZ
  have HLE:=aA hL;have zwr:w2.heap.size<wr.heap.size:=hL.1.lt
  clear hZ hL;by_cases hlt:i<n-1
  ·have hi1:i+1<n:=by omega
   have hin:(i:Int)<((n-1:Nat):Int):=by omega
   obtain⟨g0,g1,g2,g3,g4⟩:=(HCL.out (i+1) hi1).below hB hblt;rw[show off+(i+1)*5=off+5+i*5 by omega]at g0 g1 g2 g3 g4;have HOI:=aA (HM.out (i+1) hi1)
   have HOJ:=aA (HM.out j hj);have BQ:=aA (hB.alloc hB.size (.cells #[.int .i64 (f (i+1)).c,.int .i64 (f (i+1)).m.x,.int .i64 (f (i+1)).m.y,.int .i64 (f (i+1)).m.d,.int .i64 (f (i+1)).m.e] 33))
   have ZQ:=aA (HZ.out.below (aC wr (.cells #[.int .i64 (f (i+1)).c,.int .i64 (f (i+1)).m.x,.int .i64 (f (i+1)).m.y,.int .i64 (f (i+1)).m.d,.int .i64 (f (i+1)).m.e] 33)));have LQ:=aA (HLE.out.below (aC wr (.cells #[.int .i64 (f (i+1)).c,.int .i64 (f (i+1)).m.x,.int .i64 (f (i+1)).m.y,.int .i64 (f (i+1)).m.d,.int .i64 (f (i+1)).m.e] 33)))
   have TQ:=aA (C5.box wr 33 (f (i+1)));go_wp2_with fail;generalize(wr.alloc (.cells #[.int .i64 (f (i+1)).c,.int .i64 (f (i+1)).m.x,.int .i64 (f (i+1)).m.y,.int .i64 (f (i+1)).m.d,.int .i64 (f (i+1)).m.e] 33))=wq at BQ ZQ LQ TQ⊢;clear g0 g1 g2 g3 g4 HZ HLE;have ne:=cG.there wq
   have s1:∀u:cG wq,u.1.cell? ⟨wr.heap.size,1,none⟩=some (.int .i64 (f (i+1)).m.x):=fun u=>(u.cell TQ.out.lt).trans TQ.out.2.1;have s2:∀u:cG wq,u.1.cell? ⟨wr.heap.size,2,none⟩=some (.int .i64 (f (i+1)).m.y):=fun u=>(u.cell TQ.out.lt).trans TQ.out.2.2.1
   have s3:∀u:cG wq,u.1.cell? ⟨wr.heap.size,3,none⟩=some (.int .i64 (f (i+1)).m.d):=fun u=>(u.cell TQ.out.lt).trans TQ.out.2.2.2.1;have s4:∀u:cG wq,u.1.cell? ⟨wr.heap.size,4,none⟩=some (.int .i64 (f (i+1)).m.e):=fun u=>(u.cell TQ.out.lt).trans TQ.out.2.2.2.2
   have t1:∀u:cG wq,u.1.cell? ⟨w2.heap.size,1,none⟩=some (.int .i64 (f j).m.x):=fun u=>(u.cell LQ.out.1.lt).trans LQ.out.1.2.1;have t2:∀u:cG wq,u.1.cell? ⟨w2.heap.size,2,none⟩=some (.int .i64 (f j).m.y):=fun u=>(u.cell LQ.out.1.lt).trans LQ.out.1.2.2.1
   have t3:∀u:cG wq,u.1.cell? ⟨w2.heap.size,3,none⟩=some (.int .i64 (f j).m.d):=fun u=>(u.cell LQ.out.1.lt).trans LQ.out.1.2.2.2.1;have t4:∀u:cG wq,u.1.cell? ⟨w2.heap.size,4,none⟩=some (.int .i64 (f j).m.e):=fun u=>(u.cell LQ.out.1.lt).trans LQ.out.1.2.2.2.2
   by_cases hq:eI (f j).m<eI (f (i+1)).m
   ·have dq:decide (eI ⟨(f j).m.x,(f j).m.y,(f j).m.d,(f j).m.e⟩<eI ⟨(f (i+1)).m.x,(f (i+1)).m.y,(f (i+1)).m.d,(f (i+1)).m.e⟩)=true:=decide_eq_true hq;have hord:0<M.ord 2 (f (i+1)).m (f j).m:=by rw[←xW HOI.out HOJ.out];exact nJ.2 hq
    have HN:Hid (aR 2 f (n-1-(i+1)) (i+1+1) (i+1)=aP 2 f n):=by show _=_;rw[←HL.out,show n-1-i=(n-1-(i+1))+1 by omega,aR,if_pos hord]
    clear hq HL hord;refine aK (by kernel_rfl) (by kernel_rfl) ?_;repeat(go_big_quiet_step (first|(go_at_call 104;exact aM (iY _ _ _ _ _ HOI.out))|(go_at_call 104;exact aM (iY _ _ _ _ _ HOJ.out))))
    refine wpQuiet_nil ?_;rintro _ ⟨v,rfl⟩;have BV:=aA (BQ.out.trans (v.2.mono BQ.out.size))
    have ZV:=aA (ZQ.out.below v.2);have LV:=aA (LQ.out.below v.2)
    have TV:=aA (TQ.out.below v.2);obtain⟨u,hu⟩:∃u,v.1=u:=⟨_,rfl⟩
    rw[hu]at BV ZV LV TV⊢;clear hu s1 s2 s3 s4 t1 t2 t3 t4 ne v;obtain⟨q0,q1,q2,q3,q4⟩:=TV.out;obtain⟨⟨l0,l1,l2,l3,l4⟩,lz⟩:=LV.out;go_wp2;go_roundw
    case rel=>
     refine⟨i+1,i+1,by omega,hi1,by go_num,bU BV.out (by omega) _ _ _ _ _,ZV.out.far (by omega),⟨⟨by go_simp,by go_simp,by go_simp,by go_simp,by go_simp⟩,fun j=>by go_simp⟩,HN⟩
    case measure=>simp[intOf];omega
   ·have dq:decide (eI ⟨(f j).m.x,(f j).m.y,(f j).m.d,(f j).m.e⟩<eI ⟨(f (i+1)).m.x,(f (i+1)).m.y,(f (i+1)).m.d,(f (i+1)).m.e⟩)=false:=decide_eq_false hq;have hord:¬0<M.ord 2 (f (i+1)).m (f j).m:=by rw[←xW HOI.out HOJ.out];exact fun h=>hq (nJ.1 h)
    have HN:Hid (aR 2 f (n-1-(i+1)) (i+1+1) j=aP 2 f n):=by show _=_;rw[←HL.out,show n-1-i=(n-1-(i+1))+1 by omega,aR,if_neg hord]
    clear hq HL hord;refine aK (by kernel_rfl) (by kernel_rfl) ?_;repeat(go_big_quiet_step (first|(go_at_call 104;exact aM (iY _ _ _ _ _ HOI.out))|(go_at_call 104;exact aM (iY _ _ _ _ _ HOJ.out))))
    refine wpQuiet_nil ?_;rintro _ ⟨v,rfl⟩;have BV:=aA (BQ.out.trans (v.2.mono BQ.out.size))
    have ZV:=aA (ZQ.out.below v.2);have LV:=aA (LQ.out.below v.2)
    obtain⟨u,hu⟩:∃u,v.1=u:=⟨_,rfl⟩
    rw[hu]at BV ZV LV⊢;clear hu s1 s2 s3 s4 t1 t2 t3 t4 ne v;go_wp2;go_roundw;case rel=>exact⟨i+1,j,by omega,hj,by go_num,BV.out,ZV.out,LV.out,HN⟩
    case measure=>simp[intOf];omega
  ·have hjl:Hid (f j=t):=by show _=_;rw[HT.out,←HL.out,show n-1-i=0 by omega];rfl
   have hin:¬(i:Int)<((n-1:Nat):Int):=by omega
   obtain⟨⟨z0,z1,z2,z3,z4⟩,fz⟩:=HZ.out;obtain⟨⟨l0,l1,l2,l3,l4⟩,_⟩:=HLE.out;simp only[bQ]at z0 z1 z2 z3 z4;rw[hjl.out]at l0 l1 l2 l3 l4;clear HL HZ HLE;go_wp2;refine cN (v:=.tuple #[.agg #[.int .i64 t.c,.int .i64 t.m.x,.int .i64 t.m.y,.int .i64 t.m.d,.int .i64 t.m.e],.bool true]) (by simp[results,Try.results34,go_sem, *]) rfl ⟨rfl,?_⟩;exact bU hB (Nat.le_refl _) _ _ _ _ _
theorem BF (w:World) (a:Option Addr) (n cap:Nat) (f:Nat→T) (h:Rd w a n cap f) (hp:aL n f=true) (hpos:0<n):Calls Try.prog 34 #[.int .i64 3,.slice a n cap] w fun r w'=>r= .returned (.tuple #[.agg #[.int .i64 (bB 3 n f).c,.int .i64 (bB 3 n f).m.x,.int .i64 (bB 3 n f).m.y,.int .i64 (bB 3 n f).m.d,.int .i64 (bB 3 n f).m.e],.bool (aX 3 n f)])∧Below w.heap.size w w':=by
 have HR:=aA h;obtain⟨h1,h2,h3⟩:=h;have hn:(n:Int)≤140737488351232:=by omega
 have e1:aX 3 n f=true:=by simp[aX,hp,hpos]
 rw[cS e1,e1];clear e1;have hne:((n:Int)==0)=false:=by simp;omega
 have HM:=aA (mX hp);obtain⟨t,ht⟩:∃t,t=f (aP 3 f n):=⟨_,rfl⟩
 rw[←ht];have HT:=aA ht
 obtain⟨b,off,rfl,hblt,hcl⟩:=h3.resolve_left (by omega);have HCL:=aA hcl
 clear ht h3 hcl;have hn1:(0:Int)<(n:Int):=by omega
 have hn2:(1:Int)≤(n:Int):=by omega
 have hn3:(1:Int)≤(cap:Int):=by omega
 have hn4:(n:Int)≤(cap:Int):=by omega
 have hn5:1≤n:=by omega
 have hn6:1≤cap:=by omega
 by_cases hc1:cap=1
 ·obtain rfl:n=1:=by omega
  subst hc1;have ht0:t=f 0:=HT.out
  subst ht0;go_enter Try.func34,Try.ntmps34;go_wp2_with fail;refine(nW _).mono ?_;rintro r w1 ⟨rfl,hb1⟩;have B1:=aA (aB (aC w _) hb1)
  have Z1:=aA ((bI.box w 33 bQ).below hb1);clear hb1;go_wp2_with fail;refine(iL _ _ _ _ f (HR.out.below B1.out)).mono ?_;rw[hp];rintro r w2 ⟨rfl,hb2⟩;have B2:=aA (aB B1.out hb2)
  have Z2:=aA (Z1.out.below hb2);have zw2:w.heap.size<w2.heap.size:=Z2.out.1.lt
  clear hb2 Z1 HR;obtain⟨g0,g1,g2,g3,g4⟩:=(HCL.out 0 hpos).below B2.out hblt;simp only[Nat.zero_mul,Nat.add_zero]at g0 g1 g2 g3 g4;go_wp2;have B3:=aA (B2.out.alloc B2.out.size (.cells #[.int .i64 (f 0).c,.int .i64 (f 0).m.x,.int .i64 (f 0).m.y,.int .i64 (f 0).m.d,.int .i64 (f 0).m.e] 33))
  have Z3:=aA (Z2.out.below (aC w2 (.cells #[.int .i64 (f 0).c,.int .i64 (f 0).m.x,.int .i64 (f 0).m.y,.int .i64 (f 0).m.d,.int .i64 (f 0).m.e] 33)));have L3:=aA (bI.box w2 33 (f 0))
  clear g0 g1 g2 g3 g4 Z2;go_loopw [35] (fun ii wr=>ii= .int .i64 0∧Below w.heap.size w wr∧bI wr w.heap.size bQ∧bI wr w2.heap.size (f 0)) (fun _ _=>0);case atStart=>exact⟨rfl,B3.out,Z3.out,L3.out⟩
  case round=>
   obtain⟨rfl,hB,hZ,hL⟩:=hrel;obtain⟨⟨z0,z1,z2,z3,z4⟩,fz⟩:=hZ;obtain⟨⟨l0,l1,l2,l3,l4⟩,_⟩:=hL;simp only[bQ]at z0 z1 z2 z3 z4;go_wp2;refine cN (v:=.tuple #[.agg #[.int .i64 (f 0).c,.int .i64 (f 0).m.x,.int .i64 (f 0).m.y,.int .i64 (f 0).m.d,.int .i64 (f 0).m.e],.bool true]) (by simp[results,Try.results34,go_sem, *]) rfl ⟨rfl,?_⟩;exact bU hB (Nat.le_refl _) _ _ _ _ _
 go_enter Try.func34,Try.ntmps34;go_wp2_with fail;refine(nW _).mono ?_;rintro r w1 ⟨rfl,hb1⟩;have B1:=aA (aB (aC w _) hb1)
 have Z1:=aA ((bI.box w 33 bQ).below hb1);clear hb1;go_wp2_with fail;refine(iL _ _ _ _ f (HR.out.below B1.out)).mono ?_;rw[hp];rintro r w2 ⟨rfl,hb2⟩;have B2:=aA (aB B1.out hb2)
 have Z2:=aA (Z1.out.below hb2);have zw2:w.heap.size<w2.heap.size:=Z2.out.1.lt
 have bw2:b<w2.heap.size:=lD hblt B2.out.size;clear hb2 Z1 HR;obtain⟨g0,g1,g2,g3,g4⟩:=(HCL.out 0 hpos).below B2.out hblt;simp only[Nat.zero_mul,Nat.add_zero]at g0 g1 g2 g3 g4;go_wp2;have B3:=aA (B2.out.alloc B2.out.size (.cells #[.int .i64 (f 0).c,.int .i64 (f 0).m.x,.int .i64 (f 0).m.y,.int .i64 (f 0).m.d,.int .i64 (f 0).m.e] 33))
 have Z3:=aA (Z2.out.below (aC w2 (.cells #[.int .i64 (f 0).c,.int .i64 (f 0).m.x,.int .i64 (f 0).m.y,.int .i64 (f 0).m.d,.int .i64 (f 0).m.e] 33)));have L3:=aA (bI.box w2 33 (f 0))
 clear g0 g1 g2 g3 g4 Z2;go_loopw [35] (fun ii wr=>∃i j:Nat,i≤n-1∧j<n∧ii= .int .i64 i∧Below w.heap.size w wr∧bI wr w.heap.size bQ∧bI wr w2.heap.size (f j)∧Hid (aR 3 f (n-1-i) (i+1) j=aP 3 f n)) (fun ii _=>n-(intOf ii).toNat);case atStart=>exact⟨0,0,gT _,hpos,rfl,B3.out,Z3.out,L3.out,rfl⟩
 case round=>
  obtain⟨i,j,hi,hj,rfl,hB,hZ,hL,HL⟩:=hrel;have HZ:=aA hZ
  have HLE:=aA hL;have zwr:w2.heap.size<wr.heap.size:=hL.1.lt
  clear hZ hL;by_cases hlt:i<n-1
  ·have hi1:i+1<n:=by omega
   have hin:(i:Int)<((n-1:Nat):Int):=by omega
   obtain⟨g0,g1,g2,g3,g4⟩:=(HCL.out (i+1) hi1).below hB hblt;rw[show off+(i+1)*5=off+5+i*5 by omega]at g0 g1 g2 g3 g4;have HOI:=aA (HM.out (i+1) hi1)
   have HOJ:=aA (HM.out j hj);have BQ:=aA (hB.alloc hB.size (.cells #[.int .i64 (f (i+1)).c,.int .i64 (f (i+1)).m.x,.int .i64 (f (i+1)).m.y,.int .i64 (f (i+1)).m.d,.int .i64 (f (i+1)).m.e] 33))
   have ZQ:=aA (HZ.out.below (aC wr (.cells #[.int .i64 (f (i+1)).c,.int .i64 (f (i+1)).m.x,.int .i64 (f (i+1)).m.y,.int .i64 (f (i+1)).m.d,.int .i64 (f (i+1)).m.e] 33)));have LQ:=aA (HLE.out.below (aC wr (.cells #[.int .i64 (f (i+1)).c,.int .i64 (f (i+1)).m.x,.int .i64 (f (i+1)).m.y,.int .i64 (f (i+1)).m.d,.int .i64 (f (i+1)).m.e] 33)))
   have TQ:=aA (C5.box wr 33 (f (i+1)));go_wp2_with fail;generalize(wr.alloc (.cells #[.int .i64 (f (i+1)).c,.int .i64 (f (i+1)).m.x,.int .i64 (f (i+1)).m.y,.int .i64 (f (i+1)).m.d,.int .i64 (f (i+1)).m.e] 33))=wq at BQ ZQ LQ TQ⊢;clear g0 g1 g2 g3 g4 HZ HLE;have ne:=cG.there wq
   have s1:∀u:cG wq,u.1.cell? ⟨wr.heap.size,1,none⟩=some (.int .i64 (f (i+1)).m.x):=fun u=>(u.cell TQ.out.lt).trans TQ.out.2.1;have s2:∀u:cG wq,u.1.cell? ⟨wr.heap.size,2,none⟩=some (.int .i64 (f (i+1)).m.y):=fun u=>(u.cell TQ.out.lt).trans TQ.out.2.2.1
   have s3:∀u:cG wq,u.1.cell? ⟨wr.heap.size,3,none⟩=some (.int .i64 (f (i+1)).m.d):=fun u=>(u.cell TQ.out.lt).trans TQ.out.2.2.2.1;have s4:∀u:cG wq,u.1.cell? ⟨wr.heap.size,4,none⟩=some (.int .i64 (f (i+1)).m.e):=fun u=>(u.cell TQ.out.lt).trans TQ.out.2.2.2.2
   have t1:∀u:cG wq,u.1.cell? ⟨w2.heap.size,1,none⟩=some (.int .i64 (f j).m.x):=fun u=>(u.cell LQ.out.1.lt).trans LQ.out.1.2.1;have t2:∀u:cG wq,u.1.cell? ⟨w2.heap.size,2,none⟩=some (.int .i64 (f j).m.y):=fun u=>(u.cell LQ.out.1.lt).trans LQ.out.1.2.2.1
   have t3:∀u:cG wq,u.1.cell? ⟨w2.heap.size,3,none⟩=some (.int .i64 (f j).m.d):=fun u=>(u.cell LQ.out.1.lt).trans LQ.out.1.2.2.2.1;have t4:∀u:cG wq,u.1.cell? ⟨w2.heap.size,4,none⟩=some (.int .i64 (f j).m.e):=fun u=>(u.cell LQ.out.1.lt).trans LQ.out.1.2.2.2.2
   by_cases hq:uB (f j).m<uB (f (i+1)).m
   ·have dq:decide (uB ⟨(f j).m.x,(f j).m.y,(f j).m.d,(f j).m.e⟩<uB ⟨(f (i+1)).m.x,(f (i+1)).m.y,(f (i+1)).m.d,(f (i+1)).m.e⟩)=true:=decide_eq_true hq;have hord:0<M.ord 3 (f (i+1)).m (f j).m:=by rw[←xV HOI.out HOJ.out];exact nJ.2 hq
    have HN:Hid (aR 3 f (n-1-(i+1)) (i+1+1) (i+1)=aP 3 f n):=by show _=_;rw[←HL.out,show n-1-i=(n-1-(i+1))+1 by omega,aR,if_pos hord]
    clear hq HL hord;refine aK (by kernel_rfl) (by kernel_rfl) ?_;repeat(go_big_quiet_step (first|(go_at_call 105;exact aM (mZ _ _ _ _ _ HOI.out))|(go_at_call 105;exact aM (mZ _ _ _ _ _ HOJ.out))))
    refine wpQuiet_nil ?_;rintro _ ⟨v,rfl⟩;have BV:=aA (BQ.out.trans (v.2.mono BQ.out.size))
    have ZV:=aA (ZQ.out.below v.2);have LV:=aA (LQ.out.below v.2)
    have TV:=aA (TQ.out.below v.2);obtain⟨u,hu⟩:∃u,v.1=u:=⟨_,rfl⟩
    rw[hu]at BV ZV LV TV⊢;clear hu s1 s2 s3 s4 t1 t2 t3 t4 ne v;obtain⟨q0,q1,q2,q3,q4⟩:=TV.out;obtain⟨⟨l0,l1,l2,l3,l4⟩,lz⟩:=LV.out;go_wp2;go_roundw
    case rel=>
     refine⟨i+1,i+1,by omega,hi1,by go_num,bU BV.out (by omega) _ _ _ _ _,ZV.out.far (by omega),⟨⟨by go_simp,by go_simp,by go_simp,by go_simp,by go_simp⟩,fun j=>by go_simp⟩,HN⟩
    case measure=>simp[intOf];omega
   ·have dq:decide (uB ⟨(f j).m.x,(f j).m.y,(f j).m.d,(f j).m.e⟩<uB ⟨(f (i+1)).m.x,(f (i+1)).m.y,(f (i+1)).m.d,(f (i+1)).m.e⟩)=false:=decide_eq_false hq;have hord:¬0<M.ord 3 (f (i+1)).m (f j).m:=by rw[←xV HOI.out HOJ.out];exact fun h=>hq (nJ.1 h)
    have HN:Hid (aR 3 f (n-1-(i+1)) (i+1+1) j=aP 3 f n):=by show _=_;rw[←HL.out,show n-1-i=(n-1-(i+1))+1 by omega,aR,if_neg hord]
    clear hq HL hord;refine aK (by kernel_rfl) (by kernel_rfl) ?_;repeat(go_big_quiet_step (first|(go_at_call 105;exact aM (mZ _ _ _ _ _ HOI.out))|(go_at_call 105;exact aM (mZ _ _ _ _ _ HOJ.out))))
    refine wpQuiet_nil ?_;rintro _ ⟨v,rfl⟩;have BV:=aA (BQ.out.trans (v.2.mono BQ.out.size))
    have ZV:=aA (ZQ.out.below v.2);have LV:=aA (LQ.out.below v.2)
    obtain⟨u,hu⟩:∃u,v.1=u:=⟨_,rfl⟩
    rw[hu]at BV ZV LV⊢;clear hu s1 s2 s3 s4 t1 t2 t3 t4 ne v;go_wp2;go_roundw;case rel=>exact⟨i+1,j,by omega,hj,by go_num,BV.out,ZV.out,LV.out,HN⟩
    case measure=>simp[intOf];omega
  ·have hjl:Hid (f j=t):=by show _=_;rw[HT.out,←HL.out,show n-1-i=0 by omega];rfl
   have hin:¬(i:Int)<((n-1:Nat):Int):=by omega
   obtain⟨⟨z0,z1,z2,z3,z4⟩,fz⟩:=HZ.out;obtain⟨⟨l0,l1,l2,l3,l4⟩,_⟩:=HLE.out;simp only[bQ]at z0 z1 z2 z3 z4;rw[hjl.out]at l0 l1 l2 l3 l4;clear HL HZ HLE;go_wp2;refine cN (v:=.tuple #[.agg #[.int .i64 t.c,.int .i64 t.m.x,.int .i64 t.m.y,.int .i64 t.m.d,.int .i64 t.m.e],.bool true]) (by simp[results,Try.results34,go_sem, *]) rfl ⟨rfl,?_⟩;exact bU hB (Nat.le_refl _) _ _ _ _ _
theorem EB (w:World) (o:Int) (a:Option Addr) (n cap:Nat) (f:Nat→T) (h:Rd w a n cap f):Calls Try.prog 34 #[.int .i64 o,.slice a n cap] w fun r w'=>r= .returned (.tuple #[.agg #[.int .i64 (bB o n f).c,.int .i64 (bB o n f).m.x,.int .i64 (bB o n f).m.y,.int .i64 (bB o n f).m.d,.int .i64 (bB o n f).m.e],.bool (aX o n f)])∧Below w.heap.size w w':=by
 by_cases ho:1≤o∧o≤3
 ·obtain⟨o1,o2⟩:=ho;by_cases hn0:n=0
  ·have e1:aX o n f=false:=by simp[aX,hn0]
   rw[pY e1,e1];clear e1;subst hn0;clear h;go_enter Try.func34,Try.ntmps34;go_wp2_with fail;refine(iF _ _ o1 o2).mono ?_;rintro r w1 ⟨fv,rfl,hb1⟩;obtain⟨hc1,hf1⟩:=aO hb1;have B1:=aA (aB (aC w _) hb1)
   clear hb1;go_wp2;refine cN (v:=.tuple #[.agg #[.int .i64 0,.int .i64 0,.int .i64 0,.int .i64 0,.int .i64 0],.bool false]) (by simp[results,Try.results34,go_sem, *]) rfl ⟨rfl,?_⟩;exact bU B1.out (by omega) _ _ _ _ _
  ·cases hp:aL n f
   ·have e1:aX o n f=false:=by simp[aX,hp]
    rw[pY e1,e1];clear e1;have HR:=aA h
    have hn:(n:Int)≤140737488351232:=by have:=h.2.1;omega
    have hne:((n:Int)==0)=false:=by simp;omega
    clear h hn0;go_enter Try.func34,Try.ntmps34;go_wp2_with fail;refine(iF _ _ o1 o2).mono ?_;rintro r w1 ⟨fv,rfl,hb1⟩;obtain⟨hc1,hf1⟩:=aO hb1;have B1:=aA (aB (aC w _) hb1)
    have hz1:w.heap.size<w1.heap.size:=by have:=hb1.size;simp at this;omega
    clear hb1;go_wp2_with fail;refine(iL _ _ _ _ f (HR.out.below B1.out)).mono ?_;rw[hp];rintro r w2 ⟨rfl,hb2⟩;obtain⟨hc2,hf2⟩:=aO hb2;have B2:=aA (aB B1.out hb2)
    clear hb2;go_wp2;refine cN (v:=.tuple #[.agg #[.int .i64 0,.int .i64 0,.int .i64 0,.int .i64 0,.int .i64 0],.bool false]) (by simp[results,Try.results34,go_sem, *]) rfl ⟨rfl,?_⟩;exact bU B2.out (by omega) _ _ _ _ _
   ·have ho3:o=1∨o=2∨o=3:=by omega
    rcases ho3 with rfl|rfl|rfl
    ·exact BD w a n cap f h hp (by omega)
    ·exact BE w a n cap f h hp (by omega)
    ·exact BF w a n cap f h hp (by omega)
 ·have e1:aX o n f=false:=by simp[aX,ho]
  rw[pY e1,e1];have ho':o<1∨3<o:=by omega
  clear e1 ho h;go_enter Try.func34,Try.ntmps34;go_wp2_with fail;refine(mU _ _ ho').mono ?_;rintro r w1 ⟨rfl,hb1⟩;obtain⟨hc1,hf1⟩:=aO hb1;have B1:=aA (aB (aC w _) hb1)
  clear hb1;go_wp2;refine cN (v:=.tuple #[.agg #[.int .i64 0,.int .i64 0,.int .i64 0,.int .i64 0,.int .i64 0],.bool false]) (by simp[results,Try.results34,go_sem, *]) rfl ⟨rfl,?_⟩;exact bU B1.out (by omega) _ _ _ _ _
end Go.Proofs.Ytbkighpmkadmmaa
