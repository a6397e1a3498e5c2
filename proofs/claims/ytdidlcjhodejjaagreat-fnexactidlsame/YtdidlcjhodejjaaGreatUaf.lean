/-
  The greatest term of an operator in an order: the program's function.
-/
import Derived.Test.YtdidlcjhodejjaaGreatUae
import Derived.Test.YtdidlcjhodejjaaGreatUab
import Derived.Test.YtdidlcjhodejjaaGreatUac
import Derived.Deep.RegionHeld3
import Derived.Deep.Light
import Derived.Test.YtdidlcjhodejjaaGreatUad
namespace Go.Proofs.YtdidlcjhodejjaaGreat
open Go.RowKit
set_option linter.unusedVariables false
theorem c3_pos {a b:Int}:0<c3 a b ↔ b<a:=by
 unfold c3;constructor
 ·intro h;split at h
  ·omega
  ·split at h <;> omega
 ·intro h;rw [if_neg (by omega),if_pos h];decide
def C5 (w:World) (b:Nat) (t:T):Prop:=
 w.cell? ⟨b,0,none⟩=some (.int .i64 t.c)∧w.cell? ⟨b,1,none⟩=some (.int .i64 t.m.x)∧w.cell? ⟨b,2,none⟩=some (.int .i64 t.m.y)∧w.cell? ⟨b,3,none⟩=some (.int .i64 t.m.d)∧w.cell? ⟨b,4,none⟩=some (.int .i64 t.m.e)
theorem C5.lt {w:World} {b:Nat} {t:T} (h:C5 w b t):b<w.heap.size:=World.block_lt_of_cell? w _ h.1
theorem C5.below {w w':World} {b:Nat} {t:T} (h:C5 w b t) (hb:Below w.heap.size w w'):C5 w' b t:=s5_below hb h
theorem C5.box (w:World) (y:TypeId) (t:T):C5 (w.alloc (.cells #[.int .i64 t.c,.int .i64 t.m.x,.int .i64 t.m.y,.int .i64 t.m.d,.int .i64 t.m.e] y)) w.heap.size t:=
 ⟨by rw [World.cell?_alloc_at _ _ _ _ rfl];rfl,by rw [World.cell?_alloc_at _ _ _ _ rfl];rfl,by rw [World.cell?_alloc_at _ _ _ _ rfl];rfl,by rw [World.cell?_alloc_at _ _ _ _ rfl];rfl,by rw [World.cell?_alloc_at _ _ _ _ rfl];rfl⟩
theorem far5 {w:World} {B b o:Nat} {v0 v1 v2 v3 v4:Value} (h:b≠B):(((((w.setCell ⟨B,0,none⟩ v0).setCell ⟨B,1,none⟩ v1).setCell ⟨B,2,none⟩ v2).setCell ⟨B,3,none⟩ v3).setCell ⟨B,4,none⟩ v4).cell? ⟨b,o,none⟩=w.cell? ⟨b,o,none⟩:=by
 refine World.cell?_of_block ?_
 rw [Below.heap_setCell _ _ _ _ h,Below.heap_setCell _ _ _ _ h,Below.heap_setCell _ _ _ _ h,Below.heap_setCell _ _ _ _ h,Below.heap_setCell _ _ _ _ h]
theorem farz5 {w:World} {B b o:Nat} {v0 v1 v2 v3 v4:Value} (h:b≠B):(((((w.setCell ⟨B,0,none⟩ v0).setCell ⟨B,1,none⟩ v1).setCell ⟨B,2,none⟩ v2).setCell ⟨B,3,none⟩ v3).setCell ⟨B,4,none⟩ v4).frozen? ⟨b,o,none⟩=w.frozen? ⟨b,o,none⟩:=by
 refine World.frozen?_of_block ?_
 rw [Below.heap_setCell _ _ _ _ h,Below.heap_setCell _ _ _ _ h,Below.heap_setCell _ _ _ _ h,Below.heap_setCell _ _ _ _ h,Below.heap_setCell _ _ _ _ h]
def Own5 (w:World) (b:Nat) (t:T):Prop:=C5 w b t∧∀ j,w.frozen? ⟨b,j,none⟩=false
theorem Own5.below {w w':World} {b:Nat} {t:T} (h:Own5 w b t) (hb:Below w.heap.size w w'):Own5 w' b t:=⟨h.1.below hb,fun j=>(hb.frozen (p:=⟨b,j,none⟩) h.1.lt).trans (h.2 j)⟩
theorem Own5.box (w:World) (y:TypeId) (t:T):Own5 (w.alloc (.cells #[.int .i64 t.c,.int .i64 t.m.x,.int .i64 t.m.y,.int .i64 t.m.d,.int .i64 t.m.e] y)) w.heap.size t:=
 ⟨C5.box w y t,fun j=>by rw [World.frozen?_alloc_at _ _ _ _ rfl]⟩
theorem Own5.far {w:World} {B b:Nat} {t:T} {v0 v1 v2 v3 v4:Value} (m:Own5 w b t) (h:b≠B):Own5 (((((w.setCell ⟨B,0,none⟩ v0).setCell ⟨B,1,none⟩ v1).setCell ⟨B,2,none⟩ v2).setCell ⟨B,3,none⟩ v3).setCell ⟨B,4,none⟩ v4) b t:=
 ⟨⟨(far5 h).trans m.1.1,(far5 h).trans m.1.2.1,(far5 h).trans m.1.2.2.1,(far5 h).trans m.1.2.2.2.1,(far5 h).trans m.1.2.2.2.2⟩,fun j=>(farz5 h).trans (m.2 j)⟩
def zeroT:T:=⟨0,⟨0,0,0,0⟩⟩
set_option maxRecDepth 100000 in
set_option maxHeartbeats 8000000 in
theorem polLeadI1 (w:World) (a:Option Addr) (n cap:Nat) (f:Nat→T) (h:Rd w a n cap f) (hp:polOk n f=true) (hpos:0<n) :
  Calls Tryz.prog 23 #[.int .i64 1,.slice a n cap] w fun r w'=>r=.returned (.tuple #[.agg #[.int .i64 (leadT 1 n f).c,.int .i64 (leadT 1 n f).m.x,.int .i64 (leadT 1 n f).m.y,.int .i64 (leadT 1 n f).m.d,.int .i64 (leadT 1 n f).m.e],.bool (leadOk 1 n f)])∧Below w.heap.size w w':=by
 have HR:=Hid.mk' h
 obtain ⟨h1,h2,h3⟩:=h
 have hn:(n:Int)≤140737488351232:=by omega
 have e1:leadOk 1 n f=true:=by simp [leadOk,hp,hpos]
 rw [leadT_yes e1,e1]
 clear e1
 have hne:((n:Int) == 0)=false:=by simp;omega
 have HM:=Hid.mk' (polOk_m hp)
 obtain ⟨t,ht⟩:∃ t,t=f (leadAt 1 f n):=⟨_,rfl⟩
 rw [← ht]
 have HT:=Hid.mk' ht
 obtain ⟨b,off,rfl,hblt,hcl⟩:=h3.resolve_left (by omega)
 have HCL:=Hid.mk' hcl
 clear ht h3 hcl
 have hn1:(0:Int)<(n:Int):=by omega
 have hn2:(1:Int)≤(n:Int):=by omega
 have hn3:(1:Int)≤(cap:Int):=by omega
 have hn4:(n:Int)≤(cap:Int):=by omega
 have hn5:1≤n:=by omega
 have hn6:1≤cap:=by omega
 by_cases hc1:cap=1
 ·obtain rfl:n=1:=by omega
  subst hc1
  have ht0:t=f 0:=HT.out
  subst ht0
  go_enter Tryz.func23,Tryz.ntmps23
  go_wp2_with fail
  refine (ordRankI1 _).mono ?_
  rintro r w1 ⟨rfl,hb1⟩
  have B1:=Hid.mk' (bel_next (bel_one w _) hb1)
  have Z1:=Hid.mk' ((Own5.box w 42 zeroT).below hb1)
  clear hb1
  go_wp2_with fail
  refine (polOkI _ _ _ _ f (HR.out.below B1.out)).mono ?_
  rw [hp]
  rintro r w2 ⟨rfl,hb2⟩
  have B2:=Hid.mk' (bel_next B1.out hb2)
  have Z2:=Hid.mk' (Z1.out.below hb2)
  have zw2:w.heap.size<w2.heap.size:=Z2.out.1.lt
  clear hb2 Z1 HR
  obtain ⟨g0,g1,g2,g3,g4⟩:=(HCL.out 0 hpos).below B2.out hblt
  simp only [Nat.zero_mul,Nat.add_zero] at g0 g1 g2 g3 g4
  go_wp2
  have B3:=Hid.mk' (B2.out.alloc B2.out.size (.cells #[.int .i64 (f 0).c,.int .i64 (f 0).m.x,.int .i64 (f 0).m.y,.int .i64 (f 0).m.d,.int .i64 (f 0).m.e] 42))
  have Z3:=Hid.mk' (Z2.out.below (bel_one w2 (.cells #[.int .i64 (f 0).c,.int .i64 (f 0).m.x,.int .i64 (f 0).m.y,.int .i64 (f 0).m.d,.int .i64 (f 0).m.e] 42)))
  have L3:=Hid.mk' (Own5.box w2 42 (f 0))
  clear g0 g1 g2 g3 g4 Z2
  go_loopw [35] (fun ii wr=>ii=.int .i64 0∧Below w.heap.size w wr∧Own5 wr w.heap.size zeroT∧Own5 wr w2.heap.size (f 0)) (fun _ _=>0)
  case atStart=>exact ⟨rfl,B3.out,Z3.out,L3.out⟩
  case round=>
   obtain ⟨rfl,hB,hZ,hL⟩:=hrel
   obtain ⟨⟨z0,z1,z2,z3,z4⟩,fz⟩:=hZ
   obtain ⟨⟨l0,l1,l2,l3,l4⟩,_⟩:=hL
   simp only [zeroT] at z0 z1 z2 z3 z4
   go_wp2
   refine bodyPost_ret (v:=.tuple #[.agg #[.int .i64 (f 0).c,.int .i64 (f 0).m.x,.int .i64 (f 0).m.y,.int .i64 (f 0).m.d,.int .i64 (f 0).m.e],.bool true]) (by simp [results,Tryz.results23,go_sem, *]) rfl ⟨rfl,?_⟩
   exact bel_s5 hB (Nat.le_refl _) _ _ _ _ _
 go_enter Tryz.func23,Tryz.ntmps23
 go_wp2_with fail
 refine (ordRankI1 _).mono ?_
 rintro r w1 ⟨rfl,hb1⟩
 have B1:=Hid.mk' (bel_next (bel_one w _) hb1)
 have Z1:=Hid.mk' ((Own5.box w 42 zeroT).below hb1)
 clear hb1
 go_wp2_with fail
 refine (polOkI _ _ _ _ f (HR.out.below B1.out)).mono ?_
 rw [hp]
 rintro r w2 ⟨rfl,hb2⟩
 have B2:=Hid.mk' (bel_next B1.out hb2)
 have Z2:=Hid.mk' (Z1.out.below hb2)
 have zw2:w.heap.size<w2.heap.size:=Z2.out.1.lt
 have bw2:b<w2.heap.size:=Nat.lt_of_lt_of_le hblt B2.out.size
 clear hb2 Z1 HR
 obtain ⟨g0,g1,g2,g3,g4⟩:=(HCL.out 0 hpos).below B2.out hblt
 simp only [Nat.zero_mul,Nat.add_zero] at g0 g1 g2 g3 g4
 go_wp2
 have B3:=Hid.mk' (B2.out.alloc B2.out.size (.cells #[.int .i64 (f 0).c,.int .i64 (f 0).m.x,.int .i64 (f 0).m.y,.int .i64 (f 0).m.d,.int .i64 (f 0).m.e] 42))
 have Z3:=Hid.mk' (Z2.out.below (bel_one w2 (.cells #[.int .i64 (f 0).c,.int .i64 (f 0).m.x,.int .i64 (f 0).m.y,.int .i64 (f 0).m.d,.int .i64 (f 0).m.e] 42)))
 have L3:=Hid.mk' (Own5.box w2 42 (f 0))
 clear g0 g1 g2 g3 g4 Z2
 go_loopw [35] (fun ii wr=>∃ i j:Nat,i≤n - 1∧j<n∧ii=.int .i64 i∧Below w.heap.size w wr∧Own5 wr w.heap.size zeroT∧Own5 wr w2.heap.size (f j)∧Hid (leadFrom 1 f (n - 1 - i) (i+1) j=leadAt 1 f n)) (fun ii _=>n - (intOf ii).toNat)
 case atStart=>exact ⟨0,0,Nat.zero_le _,hpos,rfl,B3.out,Z3.out,L3.out,rfl⟩
 case round=>
  obtain ⟨i,j,hi,hj,rfl,hB,hZ,hL,HL⟩:=hrel
  have HZ:=Hid.mk' hZ
  have HLE:=Hid.mk' hL
  have zwr:w2.heap.size<wr.heap.size:=hL.1.lt
  clear hZ hL
  by_cases hlt:i<n - 1
  ·have hi1:i+1<n:=by omega
   have hin:(i:Int)<((n - 1:Nat):Int):=by omega
   obtain ⟨g0,g1,g2,g3,g4⟩:=(HCL.out (i+1) hi1).below hB hblt
   rw [show off+(i+1) * 5=off+5+i * 5 by omega] at g0 g1 g2 g3 g4
   have HOI:=Hid.mk' (HM.out (i+1) hi1)
   have HOJ:=Hid.mk' (HM.out j hj)
   have BQ:=Hid.mk' (hB.alloc hB.size (.cells #[.int .i64 (f (i+1)).c,.int .i64 (f (i+1)).m.x,.int .i64 (f (i+1)).m.y,.int .i64 (f (i+1)).m.d,.int .i64 (f (i+1)).m.e] 42))
   have ZQ:=Hid.mk' (HZ.out.below (bel_one wr (.cells #[.int .i64 (f (i+1)).c,.int .i64 (f (i+1)).m.x,.int .i64 (f (i+1)).m.y,.int .i64 (f (i+1)).m.d,.int .i64 (f (i+1)).m.e] 42)))
   have LQ:=Hid.mk' (HLE.out.below (bel_one wr (.cells #[.int .i64 (f (i+1)).c,.int .i64 (f (i+1)).m.x,.int .i64 (f (i+1)).m.y,.int .i64 (f (i+1)).m.d,.int .i64 (f (i+1)).m.e] 42)))
   have TQ:=Hid.mk' (C5.box wr 42 (f (i+1)))
   go_wp2_with fail
   generalize (wr.alloc (.cells #[.int .i64 (f (i+1)).c,.int .i64 (f (i+1)).m.x,.int .i64 (f (i+1)).m.y,.int .i64 (f (i+1)).m.d,.int .i64 (f (i+1)).m.e] 42))=wq at BQ ZQ LQ TQ ⊢
   clear g0 g1 g2 g3 g4 HZ HLE
   have ne:=Ext.there wq
   have s1:∀ u:Ext wq,u.1.cell? ⟨wr.heap.size,1,none⟩=some (.int .i64 (f (i+1)).m.x):=fun u=>(u.cell TQ.out.lt).trans TQ.out.2.1
   have s2:∀ u:Ext wq,u.1.cell? ⟨wr.heap.size,2,none⟩=some (.int .i64 (f (i+1)).m.y):=fun u=>(u.cell TQ.out.lt).trans TQ.out.2.2.1
   have s3:∀ u:Ext wq,u.1.cell? ⟨wr.heap.size,3,none⟩=some (.int .i64 (f (i+1)).m.d):=fun u=>(u.cell TQ.out.lt).trans TQ.out.2.2.2.1
   have s4:∀ u:Ext wq,u.1.cell? ⟨wr.heap.size,4,none⟩=some (.int .i64 (f (i+1)).m.e):=fun u=>(u.cell TQ.out.lt).trans TQ.out.2.2.2.2
   have t1:∀ u:Ext wq,u.1.cell? ⟨w2.heap.size,1,none⟩=some (.int .i64 (f j).m.x):=fun u=>(u.cell LQ.out.1.lt).trans LQ.out.1.2.1
   have t2:∀ u:Ext wq,u.1.cell? ⟨w2.heap.size,2,none⟩=some (.int .i64 (f j).m.y):=fun u=>(u.cell LQ.out.1.lt).trans LQ.out.1.2.2.1
   have t3:∀ u:Ext wq,u.1.cell? ⟨w2.heap.size,3,none⟩=some (.int .i64 (f j).m.d):=fun u=>(u.cell LQ.out.1.lt).trans LQ.out.1.2.2.2.1
   have t4:∀ u:Ext wq,u.1.cell? ⟨w2.heap.size,4,none⟩=some (.int .i64 (f j).m.e):=fun u=>(u.cell LQ.out.1.lt).trans LQ.out.1.2.2.2.2
   by_cases hq:rkD (f j).m<rkD (f (i+1)).m
   ·have dq:decide (rkD ⟨(f j).m.x,(f j).m.y,(f j).m.d,(f j).m.e⟩<rkD ⟨(f (i+1)).m.x,(f (i+1)).m.y,(f (i+1)).m.d,(f (i+1)).m.e⟩)=true:=decide_eq_true hq
    have hord:0<M.ord 1 (f (i+1)).m (f j).m:=by rw [← rk_deg HOI.out HOJ.out];exact c3_pos.2 hq
    have HN:Hid (leadFrom 1 f (n - 1 - (i+1)) (i+1+1) (i+1)=leadAt 1 f n):=by
     show _=_
     rw [← HL.out,show n - 1 - i=(n - 1 - (i+1))+1 by omega,leadFrom,if_pos hord]
    clear hq HL hord
    refine wp_region_ext (by kernel_rfl) (by kernel_rfl) ?_
    repeat (go_big_quiet_step (first | (go_at_call 103;exact ext_grows (rankDegI _ _ _ _ _ HOI.out)) | (go_at_call 103;exact ext_grows (rankDegI _ _ _ _ _ HOJ.out))))
    refine wpQuiet_nil ?_
    rintro _ ⟨v,rfl⟩
    have BV:=Hid.mk' (BQ.out.trans (v.2.mono BQ.out.size))
    have ZV:=Hid.mk' (ZQ.out.below v.2)
    have LV:=Hid.mk' (LQ.out.below v.2)
    have TV:=Hid.mk' (TQ.out.below v.2)
    obtain ⟨u,hu⟩:∃ u,v.1=u:=⟨_,rfl⟩
    rw [hu] at BV ZV LV TV ⊢
    clear hu s1 s2 s3 s4 t1 t2 t3 t4 ne v
    obtain ⟨q0,q1,q2,q3,q4⟩:=TV.out
    obtain ⟨⟨l0,l1,l2,l3,l4⟩,lz⟩:=LV.out
    go_wp2
    go_roundw
    case rel=>
     refine ⟨i+1,i+1,by omega,hi1,by go_num,bel_s5 BV.out (by omega) _ _ _ _ _,ZV.out.far (by omega),⟨⟨by go_simp,by go_simp,by go_simp,by go_simp,by go_simp⟩,fun j=>by go_simp⟩,HN⟩
    case measure=>simp [intOf];omega
   ·have dq:decide (rkD ⟨(f j).m.x,(f j).m.y,(f j).m.d,(f j).m.e⟩<rkD ⟨(f (i+1)).m.x,(f (i+1)).m.y,(f (i+1)).m.d,(f (i+1)).m.e⟩)=false:=decide_eq_false hq
    have hord:¬ 0<M.ord 1 (f (i+1)).m (f j).m:=by rw [← rk_deg HOI.out HOJ.out];exact fun h=>hq (c3_pos.1 h)
    have HN:Hid (leadFrom 1 f (n - 1 - (i+1)) (i+1+1) j=leadAt 1 f n):=by
     show _=_
     rw [← HL.out,show n - 1 - i=(n - 1 - (i+1))+1 by omega,leadFrom,if_neg hord]
    clear hq HL hord
    refine wp_region_ext (by kernel_rfl) (by kernel_rfl) ?_
    repeat (go_big_quiet_step (first | (go_at_call 103;exact ext_grows (rankDegI _ _ _ _ _ HOI.out)) | (go_at_call 103;exact ext_grows (rankDegI _ _ _ _ _ HOJ.out))))
    refine wpQuiet_nil ?_
    rintro _ ⟨v,rfl⟩
    have BV:=Hid.mk' (BQ.out.trans (v.2.mono BQ.out.size))
    have ZV:=Hid.mk' (ZQ.out.below v.2)
    have LV:=Hid.mk' (LQ.out.below v.2)
    obtain ⟨u,hu⟩:∃ u,v.1=u:=⟨_,rfl⟩
    rw [hu] at BV ZV LV ⊢
    clear hu s1 s2 s3 s4 t1 t2 t3 t4 ne v
    go_wp2
    go_roundw
    case rel=>exact ⟨i+1,j,by omega,hj,by go_num,BV.out,ZV.out,LV.out,HN⟩
    case measure=>simp [intOf];omega
  ·have hjl:Hid (f j=t):=by
    show _=_
    rw [HT.out,← HL.out,show n - 1 - i=0 by omega];rfl
   have hin:¬ (i:Int)<((n - 1:Nat):Int):=by omega
   obtain ⟨⟨z0,z1,z2,z3,z4⟩,fz⟩:=HZ.out
   obtain ⟨⟨l0,l1,l2,l3,l4⟩,_⟩:=HLE.out
   simp only [zeroT] at z0 z1 z2 z3 z4
   rw [hjl.out] at l0 l1 l2 l3 l4
   clear HL HZ HLE
   go_wp2
   refine bodyPost_ret (v:=.tuple #[.agg #[.int .i64 t.c,.int .i64 t.m.x,.int .i64 t.m.y,.int .i64 t.m.d,.int .i64 t.m.e],.bool true]) (by simp [results,Tryz.results23,go_sem, *]) rfl ⟨rfl,?_⟩
   exact bel_s5 hB (Nat.le_refl _) _ _ _ _ _
set_option maxRecDepth 100000 in
set_option maxHeartbeats 8000000 in
theorem polLeadI2 (w:World) (a:Option Addr) (n cap:Nat) (f:Nat→T) (h:Rd w a n cap f) (hp:polOk n f=true) (hpos:0<n) :
  Calls Tryz.prog 23 #[.int .i64 2,.slice a n cap] w fun r w'=>r=.returned (.tuple #[.agg #[.int .i64 (leadT 2 n f).c,.int .i64 (leadT 2 n f).m.x,.int .i64 (leadT 2 n f).m.y,.int .i64 (leadT 2 n f).m.d,.int .i64 (leadT 2 n f).m.e],.bool (leadOk 2 n f)])∧Below w.heap.size w w':=by
 have HR:=Hid.mk' h
 obtain ⟨h1,h2,h3⟩:=h
 have hn:(n:Int)≤140737488351232:=by omega
 have e1:leadOk 2 n f=true:=by simp [leadOk,hp,hpos]
 rw [leadT_yes e1,e1]
 clear e1
 have hne:((n:Int) == 0)=false:=by simp;omega
 have HM:=Hid.mk' (polOk_m hp)
 obtain ⟨t,ht⟩:∃ t,t=f (leadAt 2 f n):=⟨_,rfl⟩
 rw [← ht]
 have HT:=Hid.mk' ht
 obtain ⟨b,off,rfl,hblt,hcl⟩:=h3.resolve_left (by omega)
 have HCL:=Hid.mk' hcl
 clear ht h3 hcl
 have hn1:(0:Int)<(n:Int):=by omega
 have hn2:(1:Int)≤(n:Int):=by omega
 have hn3:(1:Int)≤(cap:Int):=by omega
 have hn4:(n:Int)≤(cap:Int):=by omega
 have hn5:1≤n:=by omega
 have hn6:1≤cap:=by omega
 by_cases hc1:cap=1
 ·obtain rfl:n=1:=by omega
  subst hc1
  have ht0:t=f 0:=HT.out
  subst ht0
  go_enter Tryz.func23,Tryz.ntmps23
  go_wp2_with fail
  refine (ordRankI2 _).mono ?_
  rintro r w1 ⟨rfl,hb1⟩
  have B1:=Hid.mk' (bel_next (bel_one w _) hb1)
  have Z1:=Hid.mk' ((Own5.box w 42 zeroT).below hb1)
  clear hb1
  go_wp2_with fail
  refine (polOkI _ _ _ _ f (HR.out.below B1.out)).mono ?_
  rw [hp]
  rintro r w2 ⟨rfl,hb2⟩
  have B2:=Hid.mk' (bel_next B1.out hb2)
  have Z2:=Hid.mk' (Z1.out.below hb2)
  have zw2:w.heap.size<w2.heap.size:=Z2.out.1.lt
  clear hb2 Z1 HR
  obtain ⟨g0,g1,g2,g3,g4⟩:=(HCL.out 0 hpos).below B2.out hblt
  simp only [Nat.zero_mul,Nat.add_zero] at g0 g1 g2 g3 g4
  go_wp2
  have B3:=Hid.mk' (B2.out.alloc B2.out.size (.cells #[.int .i64 (f 0).c,.int .i64 (f 0).m.x,.int .i64 (f 0).m.y,.int .i64 (f 0).m.d,.int .i64 (f 0).m.e] 42))
  have Z3:=Hid.mk' (Z2.out.below (bel_one w2 (.cells #[.int .i64 (f 0).c,.int .i64 (f 0).m.x,.int .i64 (f 0).m.y,.int .i64 (f 0).m.d,.int .i64 (f 0).m.e] 42)))
  have L3:=Hid.mk' (Own5.box w2 42 (f 0))
  clear g0 g1 g2 g3 g4 Z2
  go_loopw [35] (fun ii wr=>ii=.int .i64 0∧Below w.heap.size w wr∧Own5 wr w.heap.size zeroT∧Own5 wr w2.heap.size (f 0)) (fun _ _=>0)
  case atStart=>exact ⟨rfl,B3.out,Z3.out,L3.out⟩
  case round=>
   obtain ⟨rfl,hB,hZ,hL⟩:=hrel
   obtain ⟨⟨z0,z1,z2,z3,z4⟩,fz⟩:=hZ
   obtain ⟨⟨l0,l1,l2,l3,l4⟩,_⟩:=hL
   simp only [zeroT] at z0 z1 z2 z3 z4
   go_wp2
   refine bodyPost_ret (v:=.tuple #[.agg #[.int .i64 (f 0).c,.int .i64 (f 0).m.x,.int .i64 (f 0).m.y,.int .i64 (f 0).m.d,.int .i64 (f 0).m.e],.bool true]) (by simp [results,Tryz.results23,go_sem, *]) rfl ⟨rfl,?_⟩
   exact bel_s5 hB (Nat.le_refl _) _ _ _ _ _
 go_enter Tryz.func23,Tryz.ntmps23
 go_wp2_with fail
 refine (ordRankI2 _).mono ?_
 rintro r w1 ⟨rfl,hb1⟩
 have B1:=Hid.mk' (bel_next (bel_one w _) hb1)
 have Z1:=Hid.mk' ((Own5.box w 42 zeroT).below hb1)
 clear hb1
 go_wp2_with fail
 refine (polOkI _ _ _ _ f (HR.out.below B1.out)).mono ?_
 rw [hp]
 rintro r w2 ⟨rfl,hb2⟩
 have B2:=Hid.mk' (bel_next B1.out hb2)
 have Z2:=Hid.mk' (Z1.out.below hb2)
 have zw2:w.heap.size<w2.heap.size:=Z2.out.1.lt
 have bw2:b<w2.heap.size:=Nat.lt_of_lt_of_le hblt B2.out.size
 clear hb2 Z1 HR
 obtain ⟨g0,g1,g2,g3,g4⟩:=(HCL.out 0 hpos).below B2.out hblt
 simp only [Nat.zero_mul,Nat.add_zero] at g0 g1 g2 g3 g4
 go_wp2
 have B3:=Hid.mk' (B2.out.alloc B2.out.size (.cells #[.int .i64 (f 0).c,.int .i64 (f 0).m.x,.int .i64 (f 0).m.y,.int .i64 (f 0).m.d,.int .i64 (f 0).m.e] 42))
 have Z3:=Hid.mk' (Z2.out.below (bel_one w2 (.cells #[.int .i64 (f 0).c,.int .i64 (f 0).m.x,.int .i64 (f 0).m.y,.int .i64 (f 0).m.d,.int .i64 (f 0).m.e] 42)))
 have L3:=Hid.mk' (Own5.box w2 42 (f 0))
 clear g0 g1 g2 g3 g4 Z2
 go_loopw [35] (fun ii wr=>∃ i j:Nat,i≤n - 1∧j<n∧ii=.int .i64 i∧Below w.heap.size w wr∧Own5 wr w.heap.size zeroT∧Own5 wr w2.heap.size (f j)∧Hid (leadFrom 2 f (n - 1 - i) (i+1) j=leadAt 2 f n)) (fun ii _=>n - (intOf ii).toNat)
 case atStart=>exact ⟨0,0,Nat.zero_le _,hpos,rfl,B3.out,Z3.out,L3.out,rfl⟩
 case round=>
  obtain ⟨i,j,hi,hj,rfl,hB,hZ,hL,HL⟩:=hrel
  have HZ:=Hid.mk' hZ
  have HLE:=Hid.mk' hL
  have zwr:w2.heap.size<wr.heap.size:=hL.1.lt
  clear hZ hL
  by_cases hlt:i<n - 1
  ·have hi1:i+1<n:=by omega
   have hin:(i:Int)<((n - 1:Nat):Int):=by omega
   obtain ⟨g0,g1,g2,g3,g4⟩:=(HCL.out (i+1) hi1).below hB hblt
   rw [show off+(i+1) * 5=off+5+i * 5 by omega] at g0 g1 g2 g3 g4
   have HOI:=Hid.mk' (HM.out (i+1) hi1)
   have HOJ:=Hid.mk' (HM.out j hj)
   have BQ:=Hid.mk' (hB.alloc hB.size (.cells #[.int .i64 (f (i+1)).c,.int .i64 (f (i+1)).m.x,.int .i64 (f (i+1)).m.y,.int .i64 (f (i+1)).m.d,.int .i64 (f (i+1)).m.e] 42))
   have ZQ:=Hid.mk' (HZ.out.below (bel_one wr (.cells #[.int .i64 (f (i+1)).c,.int .i64 (f (i+1)).m.x,.int .i64 (f (i+1)).m.y,.int .i64 (f (i+1)).m.d,.int .i64 (f (i+1)).m.e] 42)))
   have LQ:=Hid.mk' (HLE.out.below (bel_one wr (.cells #[.int .i64 (f (i+1)).c,.int .i64 (f (i+1)).m.x,.int .i64 (f (i+1)).m.y,.int .i64 (f (i+1)).m.d,.int .i64 (f (i+1)).m.e] 42)))
   have TQ:=Hid.mk' (C5.box wr 42 (f (i+1)))
   go_wp2_with fail
   generalize (wr.alloc (.cells #[.int .i64 (f (i+1)).c,.int .i64 (f (i+1)).m.x,.int .i64 (f (i+1)).m.y,.int .i64 (f (i+1)).m.d,.int .i64 (f (i+1)).m.e] 42))=wq at BQ ZQ LQ TQ ⊢
   clear g0 g1 g2 g3 g4 HZ HLE
   have ne:=Ext.there wq
   have s1:∀ u:Ext wq,u.1.cell? ⟨wr.heap.size,1,none⟩=some (.int .i64 (f (i+1)).m.x):=fun u=>(u.cell TQ.out.lt).trans TQ.out.2.1
   have s2:∀ u:Ext wq,u.1.cell? ⟨wr.heap.size,2,none⟩=some (.int .i64 (f (i+1)).m.y):=fun u=>(u.cell TQ.out.lt).trans TQ.out.2.2.1
   have s3:∀ u:Ext wq,u.1.cell? ⟨wr.heap.size,3,none⟩=some (.int .i64 (f (i+1)).m.d):=fun u=>(u.cell TQ.out.lt).trans TQ.out.2.2.2.1
   have s4:∀ u:Ext wq,u.1.cell? ⟨wr.heap.size,4,none⟩=some (.int .i64 (f (i+1)).m.e):=fun u=>(u.cell TQ.out.lt).trans TQ.out.2.2.2.2
   have t1:∀ u:Ext wq,u.1.cell? ⟨w2.heap.size,1,none⟩=some (.int .i64 (f j).m.x):=fun u=>(u.cell LQ.out.1.lt).trans LQ.out.1.2.1
   have t2:∀ u:Ext wq,u.1.cell? ⟨w2.heap.size,2,none⟩=some (.int .i64 (f j).m.y):=fun u=>(u.cell LQ.out.1.lt).trans LQ.out.1.2.2.1
   have t3:∀ u:Ext wq,u.1.cell? ⟨w2.heap.size,3,none⟩=some (.int .i64 (f j).m.d):=fun u=>(u.cell LQ.out.1.lt).trans LQ.out.1.2.2.2.1
   have t4:∀ u:Ext wq,u.1.cell? ⟨w2.heap.size,4,none⟩=some (.int .i64 (f j).m.e):=fun u=>(u.cell LQ.out.1.lt).trans LQ.out.1.2.2.2.2
   by_cases hq:rkL (f j).m<rkL (f (i+1)).m
   ·have dq:decide (rkL ⟨(f j).m.x,(f j).m.y,(f j).m.d,(f j).m.e⟩<rkL ⟨(f (i+1)).m.x,(f (i+1)).m.y,(f (i+1)).m.d,(f (i+1)).m.e⟩)=true:=decide_eq_true hq
    have hord:0<M.ord 2 (f (i+1)).m (f j).m:=by rw [← rk_two HOI.out HOJ.out];exact c3_pos.2 hq
    have HN:Hid (leadFrom 2 f (n - 1 - (i+1)) (i+1+1) (i+1)=leadAt 2 f n):=by
     show _=_
     rw [← HL.out,show n - 1 - i=(n - 1 - (i+1))+1 by omega,leadFrom,if_pos hord]
    clear hq HL hord
    refine wp_region_ext (by kernel_rfl) (by kernel_rfl) ?_
    repeat (go_big_quiet_step (first | (go_at_call 104;exact ext_grows (rankLexI _ _ _ _ _ HOI.out)) | (go_at_call 104;exact ext_grows (rankLexI _ _ _ _ _ HOJ.out))))
    refine wpQuiet_nil ?_
    rintro _ ⟨v,rfl⟩
    have BV:=Hid.mk' (BQ.out.trans (v.2.mono BQ.out.size))
    have ZV:=Hid.mk' (ZQ.out.below v.2)
    have LV:=Hid.mk' (LQ.out.below v.2)
    have TV:=Hid.mk' (TQ.out.below v.2)
    obtain ⟨u,hu⟩:∃ u,v.1=u:=⟨_,rfl⟩
    rw [hu] at BV ZV LV TV ⊢
    clear hu s1 s2 s3 s4 t1 t2 t3 t4 ne v
    obtain ⟨q0,q1,q2,q3,q4⟩:=TV.out
    obtain ⟨⟨l0,l1,l2,l3,l4⟩,lz⟩:=LV.out
    go_wp2
    go_roundw
    case rel=>
     refine ⟨i+1,i+1,by omega,hi1,by go_num,bel_s5 BV.out (by omega) _ _ _ _ _,ZV.out.far (by omega),⟨⟨by go_simp,by go_simp,by go_simp,by go_simp,by go_simp⟩,fun j=>by go_simp⟩,HN⟩
    case measure=>simp [intOf];omega
   ·have dq:decide (rkL ⟨(f j).m.x,(f j).m.y,(f j).m.d,(f j).m.e⟩<rkL ⟨(f (i+1)).m.x,(f (i+1)).m.y,(f (i+1)).m.d,(f (i+1)).m.e⟩)=false:=decide_eq_false hq
    have hord:¬ 0<M.ord 2 (f (i+1)).m (f j).m:=by rw [← rk_two HOI.out HOJ.out];exact fun h=>hq (c3_pos.1 h)
    have HN:Hid (leadFrom 2 f (n - 1 - (i+1)) (i+1+1) j=leadAt 2 f n):=by
     show _=_
     rw [← HL.out,show n - 1 - i=(n - 1 - (i+1))+1 by omega,leadFrom,if_neg hord]
    clear hq HL hord
    refine wp_region_ext (by kernel_rfl) (by kernel_rfl) ?_
    repeat (go_big_quiet_step (first | (go_at_call 104;exact ext_grows (rankLexI _ _ _ _ _ HOI.out)) | (go_at_call 104;exact ext_grows (rankLexI _ _ _ _ _ HOJ.out))))
    refine wpQuiet_nil ?_
    rintro _ ⟨v,rfl⟩
    have BV:=Hid.mk' (BQ.out.trans (v.2.mono BQ.out.size))
    have ZV:=Hid.mk' (ZQ.out.below v.2)
    have LV:=Hid.mk' (LQ.out.below v.2)
    obtain ⟨u,hu⟩:∃ u,v.1=u:=⟨_,rfl⟩
    rw [hu] at BV ZV LV ⊢
    clear hu s1 s2 s3 s4 t1 t2 t3 t4 ne v
    go_wp2
    go_roundw
    case rel=>exact ⟨i+1,j,by omega,hj,by go_num,BV.out,ZV.out,LV.out,HN⟩
    case measure=>simp [intOf];omega
  ·have hjl:Hid (f j=t):=by
    show _=_
    rw [HT.out,← HL.out,show n - 1 - i=0 by omega];rfl
   have hin:¬ (i:Int)<((n - 1:Nat):Int):=by omega
   obtain ⟨⟨z0,z1,z2,z3,z4⟩,fz⟩:=HZ.out
   obtain ⟨⟨l0,l1,l2,l3,l4⟩,_⟩:=HLE.out
   simp only [zeroT] at z0 z1 z2 z3 z4
   rw [hjl.out] at l0 l1 l2 l3 l4
   clear HL HZ HLE
   go_wp2
   refine bodyPost_ret (v:=.tuple #[.agg #[.int .i64 t.c,.int .i64 t.m.x,.int .i64 t.m.y,.int .i64 t.m.d,.int .i64 t.m.e],.bool true]) (by simp [results,Tryz.results23,go_sem, *]) rfl ⟨rfl,?_⟩
   exact bel_s5 hB (Nat.le_refl _) _ _ _ _ _
set_option maxRecDepth 100000 in
set_option maxHeartbeats 8000000 in
theorem polLeadI3 (w:World) (a:Option Addr) (n cap:Nat) (f:Nat→T) (h:Rd w a n cap f) (hp:polOk n f=true) (hpos:0<n) :
  Calls Tryz.prog 23 #[.int .i64 3,.slice a n cap] w fun r w'=>r=.returned (.tuple #[.agg #[.int .i64 (leadT 3 n f).c,.int .i64 (leadT 3 n f).m.x,.int .i64 (leadT 3 n f).m.y,.int .i64 (leadT 3 n f).m.d,.int .i64 (leadT 3 n f).m.e],.bool (leadOk 3 n f)])∧Below w.heap.size w w':=by
 have HR:=Hid.mk' h
 obtain ⟨h1,h2,h3⟩:=h
 have hn:(n:Int)≤140737488351232:=by omega
 have e1:leadOk 3 n f=true:=by simp [leadOk,hp,hpos]
 rw [leadT_yes e1,e1]
 clear e1
 have hne:((n:Int) == 0)=false:=by simp;omega
 have HM:=Hid.mk' (polOk_m hp)
 obtain ⟨t,ht⟩:∃ t,t=f (leadAt 3 f n):=⟨_,rfl⟩
 rw [← ht]
 have HT:=Hid.mk' ht
 obtain ⟨b,off,rfl,hblt,hcl⟩:=h3.resolve_left (by omega)
 have HCL:=Hid.mk' hcl
 clear ht h3 hcl
 have hn1:(0:Int)<(n:Int):=by omega
 have hn2:(1:Int)≤(n:Int):=by omega
 have hn3:(1:Int)≤(cap:Int):=by omega
 have hn4:(n:Int)≤(cap:Int):=by omega
 have hn5:1≤n:=by omega
 have hn6:1≤cap:=by omega
 by_cases hc1:cap=1
 ·obtain rfl:n=1:=by omega
  subst hc1
  have ht0:t=f 0:=HT.out
  subst ht0
  go_enter Tryz.func23,Tryz.ntmps23
  go_wp2_with fail
  refine (ordRankI3 _).mono ?_
  rintro r w1 ⟨rfl,hb1⟩
  have B1:=Hid.mk' (bel_next (bel_one w _) hb1)
  have Z1:=Hid.mk' ((Own5.box w 42 zeroT).below hb1)
  clear hb1
  go_wp2_with fail
  refine (polOkI _ _ _ _ f (HR.out.below B1.out)).mono ?_
  rw [hp]
  rintro r w2 ⟨rfl,hb2⟩
  have B2:=Hid.mk' (bel_next B1.out hb2)
  have Z2:=Hid.mk' (Z1.out.below hb2)
  have zw2:w.heap.size<w2.heap.size:=Z2.out.1.lt
  clear hb2 Z1 HR
  obtain ⟨g0,g1,g2,g3,g4⟩:=(HCL.out 0 hpos).below B2.out hblt
  simp only [Nat.zero_mul,Nat.add_zero] at g0 g1 g2 g3 g4
  go_wp2
  have B3:=Hid.mk' (B2.out.alloc B2.out.size (.cells #[.int .i64 (f 0).c,.int .i64 (f 0).m.x,.int .i64 (f 0).m.y,.int .i64 (f 0).m.d,.int .i64 (f 0).m.e] 42))
  have Z3:=Hid.mk' (Z2.out.below (bel_one w2 (.cells #[.int .i64 (f 0).c,.int .i64 (f 0).m.x,.int .i64 (f 0).m.y,.int .i64 (f 0).m.d,.int .i64 (f 0).m.e] 42)))
  have L3:=Hid.mk' (Own5.box w2 42 (f 0))
  clear g0 g1 g2 g3 g4 Z2
  go_loopw [35] (fun ii wr=>ii=.int .i64 0∧Below w.heap.size w wr∧Own5 wr w.heap.size zeroT∧Own5 wr w2.heap.size (f 0)) (fun _ _=>0)
  case atStart=>exact ⟨rfl,B3.out,Z3.out,L3.out⟩
  case round=>
   obtain ⟨rfl,hB,hZ,hL⟩:=hrel
   obtain ⟨⟨z0,z1,z2,z3,z4⟩,fz⟩:=hZ
   obtain ⟨⟨l0,l1,l2,l3,l4⟩,_⟩:=hL
   simp only [zeroT] at z0 z1 z2 z3 z4
   go_wp2
   refine bodyPost_ret (v:=.tuple #[.agg #[.int .i64 (f 0).c,.int .i64 (f 0).m.x,.int .i64 (f 0).m.y,.int .i64 (f 0).m.d,.int .i64 (f 0).m.e],.bool true]) (by simp [results,Tryz.results23,go_sem, *]) rfl ⟨rfl,?_⟩
   exact bel_s5 hB (Nat.le_refl _) _ _ _ _ _
 go_enter Tryz.func23,Tryz.ntmps23
 go_wp2_with fail
 refine (ordRankI3 _).mono ?_
 rintro r w1 ⟨rfl,hb1⟩
 have B1:=Hid.mk' (bel_next (bel_one w _) hb1)
 have Z1:=Hid.mk' ((Own5.box w 42 zeroT).below hb1)
 clear hb1
 go_wp2_with fail
 refine (polOkI _ _ _ _ f (HR.out.below B1.out)).mono ?_
 rw [hp]
 rintro r w2 ⟨rfl,hb2⟩
 have B2:=Hid.mk' (bel_next B1.out hb2)
 have Z2:=Hid.mk' (Z1.out.below hb2)
 have zw2:w.heap.size<w2.heap.size:=Z2.out.1.lt
 have bw2:b<w2.heap.size:=Nat.lt_of_lt_of_le hblt B2.out.size
 clear hb2 Z1 HR
 obtain ⟨g0,g1,g2,g3,g4⟩:=(HCL.out 0 hpos).below B2.out hblt
 simp only [Nat.zero_mul,Nat.add_zero] at g0 g1 g2 g3 g4
 go_wp2
 have B3:=Hid.mk' (B2.out.alloc B2.out.size (.cells #[.int .i64 (f 0).c,.int .i64 (f 0).m.x,.int .i64 (f 0).m.y,.int .i64 (f 0).m.d,.int .i64 (f 0).m.e] 42))
 have Z3:=Hid.mk' (Z2.out.below (bel_one w2 (.cells #[.int .i64 (f 0).c,.int .i64 (f 0).m.x,.int .i64 (f 0).m.y,.int .i64 (f 0).m.d,.int .i64 (f 0).m.e] 42)))
 have L3:=Hid.mk' (Own5.box w2 42 (f 0))
 clear g0 g1 g2 g3 g4 Z2
 go_loopw [35] (fun ii wr=>∃ i j:Nat,i≤n - 1∧j<n∧ii=.int .i64 i∧Below w.heap.size w wr∧Own5 wr w.heap.size zeroT∧Own5 wr w2.heap.size (f j)∧Hid (leadFrom 3 f (n - 1 - i) (i+1) j=leadAt 3 f n)) (fun ii _=>n - (intOf ii).toNat)
 case atStart=>exact ⟨0,0,Nat.zero_le _,hpos,rfl,B3.out,Z3.out,L3.out,rfl⟩
 case round=>
  obtain ⟨i,j,hi,hj,rfl,hB,hZ,hL,HL⟩:=hrel
  have HZ:=Hid.mk' hZ
  have HLE:=Hid.mk' hL
  have zwr:w2.heap.size<wr.heap.size:=hL.1.lt
  clear hZ hL
  by_cases hlt:i<n - 1
  ·have hi1:i+1<n:=by omega
   have hin:(i:Int)<((n - 1:Nat):Int):=by omega
   obtain ⟨g0,g1,g2,g3,g4⟩:=(HCL.out (i+1) hi1).below hB hblt
   rw [show off+(i+1) * 5=off+5+i * 5 by omega] at g0 g1 g2 g3 g4
   have HOI:=Hid.mk' (HM.out (i+1) hi1)
   have HOJ:=Hid.mk' (HM.out j hj)
   have BQ:=Hid.mk' (hB.alloc hB.size (.cells #[.int .i64 (f (i+1)).c,.int .i64 (f (i+1)).m.x,.int .i64 (f (i+1)).m.y,.int .i64 (f (i+1)).m.d,.int .i64 (f (i+1)).m.e] 42))
   have ZQ:=Hid.mk' (HZ.out.below (bel_one wr (.cells #[.int .i64 (f (i+1)).c,.int .i64 (f (i+1)).m.x,.int .i64 (f (i+1)).m.y,.int .i64 (f (i+1)).m.d,.int .i64 (f (i+1)).m.e] 42)))
   have LQ:=Hid.mk' (HLE.out.below (bel_one wr (.cells #[.int .i64 (f (i+1)).c,.int .i64 (f (i+1)).m.x,.int .i64 (f (i+1)).m.y,.int .i64 (f (i+1)).m.d,.int .i64 (f (i+1)).m.e] 42)))
   have TQ:=Hid.mk' (C5.box wr 42 (f (i+1)))
   go_wp2_with fail
   generalize (wr.alloc (.cells #[.int .i64 (f (i+1)).c,.int .i64 (f (i+1)).m.x,.int .i64 (f (i+1)).m.y,.int .i64 (f (i+1)).m.d,.int .i64 (f (i+1)).m.e] 42))=wq at BQ ZQ LQ TQ ⊢
   clear g0 g1 g2 g3 g4 HZ HLE
   have ne:=Ext.there wq
   have s1:∀ u:Ext wq,u.1.cell? ⟨wr.heap.size,1,none⟩=some (.int .i64 (f (i+1)).m.x):=fun u=>(u.cell TQ.out.lt).trans TQ.out.2.1
   have s2:∀ u:Ext wq,u.1.cell? ⟨wr.heap.size,2,none⟩=some (.int .i64 (f (i+1)).m.y):=fun u=>(u.cell TQ.out.lt).trans TQ.out.2.2.1
   have s3:∀ u:Ext wq,u.1.cell? ⟨wr.heap.size,3,none⟩=some (.int .i64 (f (i+1)).m.d):=fun u=>(u.cell TQ.out.lt).trans TQ.out.2.2.2.1
   have s4:∀ u:Ext wq,u.1.cell? ⟨wr.heap.size,4,none⟩=some (.int .i64 (f (i+1)).m.e):=fun u=>(u.cell TQ.out.lt).trans TQ.out.2.2.2.2
   have t1:∀ u:Ext wq,u.1.cell? ⟨w2.heap.size,1,none⟩=some (.int .i64 (f j).m.x):=fun u=>(u.cell LQ.out.1.lt).trans LQ.out.1.2.1
   have t2:∀ u:Ext wq,u.1.cell? ⟨w2.heap.size,2,none⟩=some (.int .i64 (f j).m.y):=fun u=>(u.cell LQ.out.1.lt).trans LQ.out.1.2.2.1
   have t3:∀ u:Ext wq,u.1.cell? ⟨w2.heap.size,3,none⟩=some (.int .i64 (f j).m.d):=fun u=>(u.cell LQ.out.1.lt).trans LQ.out.1.2.2.2.1
   have t4:∀ u:Ext wq,u.1.cell? ⟨w2.heap.size,4,none⟩=some (.int .i64 (f j).m.e):=fun u=>(u.cell LQ.out.1.lt).trans LQ.out.1.2.2.2.2
   by_cases hq:rkO (f j).m<rkO (f (i+1)).m
   ·have dq:decide (rkO ⟨(f j).m.x,(f j).m.y,(f j).m.d,(f j).m.e⟩<rkO ⟨(f (i+1)).m.x,(f (i+1)).m.y,(f (i+1)).m.d,(f (i+1)).m.e⟩)=true:=decide_eq_true hq
    have hord:0<M.ord 3 (f (i+1)).m (f j).m:=by rw [← rk_out HOI.out HOJ.out];exact c3_pos.2 hq
    have HN:Hid (leadFrom 3 f (n - 1 - (i+1)) (i+1+1) (i+1)=leadAt 3 f n):=by
     show _=_
     rw [← HL.out,show n - 1 - i=(n - 1 - (i+1))+1 by omega,leadFrom,if_pos hord]
    clear hq HL hord
    refine wp_region_ext (by kernel_rfl) (by kernel_rfl) ?_
    repeat (go_big_quiet_step (first | (go_at_call 105;exact ext_grows (rankOutI _ _ _ _ _ HOI.out)) | (go_at_call 105;exact ext_grows (rankOutI _ _ _ _ _ HOJ.out))))
    refine wpQuiet_nil ?_
    rintro _ ⟨v,rfl⟩
    have BV:=Hid.mk' (BQ.out.trans (v.2.mono BQ.out.size))
    have ZV:=Hid.mk' (ZQ.out.below v.2)
    have LV:=Hid.mk' (LQ.out.below v.2)
    have TV:=Hid.mk' (TQ.out.below v.2)
    obtain ⟨u,hu⟩:∃ u,v.1=u:=⟨_,rfl⟩
    rw [hu] at BV ZV LV TV ⊢
    clear hu s1 s2 s3 s4 t1 t2 t3 t4 ne v
    obtain ⟨q0,q1,q2,q3,q4⟩:=TV.out
    obtain ⟨⟨l0,l1,l2,l3,l4⟩,lz⟩:=LV.out
    go_wp2
    go_roundw
    case rel=>
     refine ⟨i+1,i+1,by omega,hi1,by go_num,bel_s5 BV.out (by omega) _ _ _ _ _,ZV.out.far (by omega),⟨⟨by go_simp,by go_simp,by go_simp,by go_simp,by go_simp⟩,fun j=>by go_simp⟩,HN⟩
    case measure=>simp [intOf];omega
   ·have dq:decide (rkO ⟨(f j).m.x,(f j).m.y,(f j).m.d,(f j).m.e⟩<rkO ⟨(f (i+1)).m.x,(f (i+1)).m.y,(f (i+1)).m.d,(f (i+1)).m.e⟩)=false:=decide_eq_false hq
    have hord:¬ 0<M.ord 3 (f (i+1)).m (f j).m:=by rw [← rk_out HOI.out HOJ.out];exact fun h=>hq (c3_pos.1 h)
    have HN:Hid (leadFrom 3 f (n - 1 - (i+1)) (i+1+1) j=leadAt 3 f n):=by
     show _=_
     rw [← HL.out,show n - 1 - i=(n - 1 - (i+1))+1 by omega,leadFrom,if_neg hord]
    clear hq HL hord
    refine wp_region_ext (by kernel_rfl) (by kernel_rfl) ?_
    repeat (go_big_quiet_step (first | (go_at_call 105;exact ext_grows (rankOutI _ _ _ _ _ HOI.out)) | (go_at_call 105;exact ext_grows (rankOutI _ _ _ _ _ HOJ.out))))
    refine wpQuiet_nil ?_
    rintro _ ⟨v,rfl⟩
    have BV:=Hid.mk' (BQ.out.trans (v.2.mono BQ.out.size))
    have ZV:=Hid.mk' (ZQ.out.below v.2)
    have LV:=Hid.mk' (LQ.out.below v.2)
    obtain ⟨u,hu⟩:∃ u,v.1=u:=⟨_,rfl⟩
    rw [hu] at BV ZV LV ⊢
    clear hu s1 s2 s3 s4 t1 t2 t3 t4 ne v
    go_wp2
    go_roundw
    case rel=>exact ⟨i+1,j,by omega,hj,by go_num,BV.out,ZV.out,LV.out,HN⟩
    case measure=>simp [intOf];omega
  ·have hjl:Hid (f j=t):=by
    show _=_
    rw [HT.out,← HL.out,show n - 1 - i=0 by omega];rfl
   have hin:¬ (i:Int)<((n - 1:Nat):Int):=by omega
   obtain ⟨⟨z0,z1,z2,z3,z4⟩,fz⟩:=HZ.out
   obtain ⟨⟨l0,l1,l2,l3,l4⟩,_⟩:=HLE.out
   simp only [zeroT] at z0 z1 z2 z3 z4
   rw [hjl.out] at l0 l1 l2 l3 l4
   clear HL HZ HLE
   go_wp2
   refine bodyPost_ret (v:=.tuple #[.agg #[.int .i64 t.c,.int .i64 t.m.x,.int .i64 t.m.y,.int .i64 t.m.d,.int .i64 t.m.e],.bool true]) (by simp [results,Tryz.results23,go_sem, *]) rfl ⟨rfl,?_⟩
   exact bel_s5 hB (Nat.le_refl _) _ _ _ _ _
set_option maxRecDepth 100000 in
set_option maxHeartbeats 4000000 in
theorem polLeadI (w:World) (o:Int) (a:Option Addr) (n cap:Nat) (f:Nat→T) (h:Rd w a n cap f) :
  Calls Tryz.prog 23 #[.int .i64 o,.slice a n cap] w fun r w'=>r=.returned (.tuple #[.agg #[.int .i64 (leadT o n f).c,.int .i64 (leadT o n f).m.x,.int .i64 (leadT o n f).m.y,.int .i64 (leadT o n f).m.d,.int .i64 (leadT o n f).m.e],.bool (leadOk o n f)])∧Below w.heap.size w w':=by
 by_cases ho:1≤o∧o≤3
 ·obtain ⟨o1,o2⟩:=ho
  by_cases hn0:n=0
  ·have e1:leadOk o n f=false:=by simp [leadOk,hn0]
   rw [leadT_no e1,e1]
   clear e1
   subst hn0
   clear h
   go_enter Tryz.func23,Tryz.ntmps23
   go_wp2_with fail
   refine (ordRankI_in _ _ o1 o2).mono ?_
   rintro r w1 ⟨fv,rfl,hb1⟩
   obtain ⟨hc1,hf1⟩:=bcell hb1
   have B1:=Hid.mk' (bel_next (bel_one w _) hb1)
   clear hb1
   go_wp2
   refine bodyPost_ret (v:=.tuple #[.agg #[.int .i64 0,.int .i64 0,.int .i64 0,.int .i64 0,.int .i64 0],.bool false]) (by simp [results,Tryz.results23,go_sem, *]) rfl ⟨rfl,?_⟩
   exact bel_s5 B1.out (by omega) _ _ _ _ _
  ·cases hp:polOk n f
   ·have e1:leadOk o n f=false:=by simp [leadOk,hp]
    rw [leadT_no e1,e1]
    clear e1
    have HR:=Hid.mk' h
    have hn:(n:Int)≤140737488351232:=by have:=h.2.1;omega
    have hne:((n:Int) == 0)=false:=by simp;omega
    clear h hn0
    go_enter Tryz.func23,Tryz.ntmps23
    go_wp2_with fail
    refine (ordRankI_in _ _ o1 o2).mono ?_
    rintro r w1 ⟨fv,rfl,hb1⟩
    obtain ⟨hc1,hf1⟩:=bcell hb1
    have B1:=Hid.mk' (bel_next (bel_one w _) hb1)
    have hz1:w.heap.size<w1.heap.size:=by have:=hb1.size;simp at this;omega
    clear hb1
    go_wp2_with fail
    refine (polOkI _ _ _ _ f (HR.out.below B1.out)).mono ?_
    rw [hp]
    rintro r w2 ⟨rfl,hb2⟩
    obtain ⟨hc2,hf2⟩:=bcell hb2
    have B2:=Hid.mk' (bel_next B1.out hb2)
    clear hb2
    go_wp2
    refine bodyPost_ret (v:=.tuple #[.agg #[.int .i64 0,.int .i64 0,.int .i64 0,.int .i64 0,.int .i64 0],.bool false]) (by simp [results,Tryz.results23,go_sem, *]) rfl ⟨rfl,?_⟩
    exact bel_s5 B2.out (by omega) _ _ _ _ _
   ·have ho3:o=1∨o=2∨o=3:=by omega
    rcases ho3 with rfl | rfl | rfl
    ·exact polLeadI1 w a n cap f h hp (by omega)
    ·exact polLeadI2 w a n cap f h hp (by omega)
    ·exact polLeadI3 w a n cap f h hp (by omega)
 ·have e1:leadOk o n f=false:=by simp [leadOk,ho]
  rw [leadT_no e1,e1]
  have ho':o<1∨3<o:=by omega
  clear e1 ho h
  go_enter Tryz.func23,Tryz.ntmps23
  go_wp2_with fail
  refine (ordRankI_out _ _ ho').mono ?_
  rintro r w1 ⟨rfl,hb1⟩
  obtain ⟨hc1,hf1⟩:=bcell hb1
  have B1:=Hid.mk' (bel_next (bel_one w _) hb1)
  clear hb1
  go_wp2
  refine bodyPost_ret (v:=.tuple #[.agg #[.int .i64 0,.int .i64 0,.int .i64 0,.int .i64 0,.int .i64 0],.bool false]) (by simp [results,Tryz.results23,go_sem, *]) rfl ⟨rfl,?_⟩
  exact bel_s5 B1.out (by omega) _ _ _ _ _
end Go.Proofs.YtdidlcjhodejjaaGreat
namespace Go.Proofs.YtdidlcjhodejjaaGreat
open Go.RowKit
set_option linter.unusedVariables false
def S8 (u:World) (n:Nat) (x0 y0 z0 u0 x1 y1 z1 u1:Int):Prop:=u.cell? ⟨n,0,none⟩=some (.int .i64 x0)∧u.cell? ⟨n,1,none⟩=some (.int .i64 y0)∧u.cell? ⟨n,2,none⟩=some (.int .i64 z0)∧u.cell? ⟨n,3,none⟩=some (.int .i64 u0)∧u.cell? ⟨n+1,0,none⟩=some (.int .i64 x1)∧u.cell? ⟨n+1,1,none⟩=some (.int .i64 y1)∧u.cell? ⟨n+1,2,none⟩=some (.int .i64 z1)∧u.cell? ⟨n+1,3,none⟩=some (.int .i64 u1)
theorem S8.mk {u:World} {n:Nat} {x0 y0 z0 u0 x1 y1 z1 u1:Int} (ha:M4 u n x0 y0 z0 u0) (hb:M4 u (n+1) x1 y1 z1 u1):S8 u n x0 y0 z0 u0 x1 y1 z1 u1:=
 ⟨ha.1,ha.2.1,ha.2.2.1,ha.2.2.2,hb.1,hb.2.1,hb.2.2.1,hb.2.2.2⟩
theorem S8.a {u:World} {n:Nat} {x0 y0 z0 u0 x1 y1 z1 u1:Int} (h:S8 u n x0 y0 z0 u0 x1 y1 z1 u1):M4 u n x0 y0 z0 u0:=⟨h.1,h.2.1,h.2.2.1,h.2.2.2.1⟩
theorem S8.b {u:World} {n:Nat} {x0 y0 z0 u0 x1 y1 z1 u1:Int} (h:S8 u n x0 y0 z0 u0 x1 y1 z1 u1):M4 u (n+1) x1 y1 z1 u1:=⟨h.2.2.2.2.1,h.2.2.2.2.2.1,h.2.2.2.2.2.2.1,h.2.2.2.2.2.2.2⟩
theorem s8_drew {u:World} {n:Nat} {x0 y0 z0 u0 x1 y1 z1 u1:Int} (h:S8 u n x0 y0 z0 u0 x1 y1 z1 u1):S8 u.drew n x0 y0 z0 u0 x1 y1 z1 u1:=.mk h.a.drew' h.b.drew'
theorem m4_far {u:World} {B b:Nat} {v0 v1 v2 v3:Value} {x y d e:Int} (m:M4 u b x y d e) (h:b≠B):M4 ((((u.setCell ⟨B,0,none⟩ v0).setCell ⟨B,1,none⟩ v1).setCell ⟨B,2,none⟩ v2).setCell ⟨B,3,none⟩ v3) b x y d e:=
 ⟨(far4 h).trans m.1,(far4 h).trans m.2.1,(far4 h).trans m.2.2.1,(far4 h).trans m.2.2.2⟩
theorem s8_set {u:World} {n B:Nat} {v0 v1 v2 v3:Value} {x0 y0 z0 u0 x1 y1 z1 u1:Int} (h:S8 u n x0 y0 z0 u0 x1 y1 z1 u1) (hB:n+1<B):S8 ((((u.setCell ⟨B,0,none⟩ v0).setCell ⟨B,1,none⟩ v1).setCell ⟨B,2,none⟩ v2).setCell ⟨B,3,none⟩ v3) n x0 y0 z0 u0 x1 y1 z1 u1:=
 .mk (m4_far h.a (by omega)) (m4_far h.b (by omega))
set_option maxHeartbeats 4000000 in
theorem monBothS (x y d e x' y' d' e':Int) (w:World) :
  Calls Tryz.prog 159 #[.agg #[.int .i64 x,.int .i64 y,.int .i64 d,.int .i64 e],.agg #[.int .i64 x',.int .i64 y',.int .i64 d',.int .i64 e']] w fun r w'=>r=.returned (.agg #[.int .i64 (M.both ⟨x,y,d,e⟩ ⟨x',y',d',e'⟩).x,.int .i64 (M.both ⟨x,y,d,e⟩ ⟨x',y',d',e'⟩).y,.int .i64 (M.both ⟨x,y,d,e⟩ ⟨x',y',d',e'⟩).d,.int .i64 (M.both ⟨x,y,d,e⟩ ⟨x',y',d',e'⟩).e])∧Below w.heap.size w w':=by
 cases ha:M.ok ⟨x,y,d,e⟩
 ·have r1:M.both ⟨x,y,d,e⟩ ⟨x',y',d',e'⟩=M.zero:=by simp [M.both,ha]
  rw [r1]
  simp only [M.zero]
  clear r1
  go_enter Tryz.func159,Tryz.ntmps159
  go_wp2_with fail
  refine (monOkS_of ha _).mono ?_
  rintro r w1 ⟨rfl,hb1⟩
  obtain ⟨hc1,hf1⟩:=bcell hb1
  have hz1:w.heap.size+1+1<w1.heap.size:=by have:=hb1.size;simp at this;omega
  go_wp2
  refine bodyPost_ret (v:=.agg #[.int .i64 0,.int .i64 0,.int .i64 0,.int .i64 0]) (by simp [results,Tryz.results159,go_sem, *]) rfl ⟨rfl,?_⟩
  exact bel_set4 (bel_next (bel_three w _ _ _) hb1) (by omega) _ _ _ _
 ·cases hb:M.ok ⟨x',y',d',e'⟩
  ·have r1:M.both ⟨x,y,d,e⟩ ⟨x',y',d',e'⟩=M.zero:=by simp [M.both,hb]
   rw [r1]
   simp only [M.zero]
   clear r1
   go_enter Tryz.func159,Tryz.ntmps159
   go_wp2_with fail
   refine (monOkS_of ha _).mono ?_
   rintro r w1 ⟨rfl,hb1⟩
   obtain ⟨hc1,hf1⟩:=bcell hb1
   have hz1:w.heap.size+1+1<w1.heap.size:=by have:=hb1.size;simp at this;omega
   go_wp2_with fail
   refine (monOkS_of hb _).mono ?_
   rintro r w2 ⟨rfl,hb2⟩
   obtain ⟨hc2,hf2⟩:=bcell hb2
   have hz2:w.heap.size+1+1<w2.heap.size:=by have:=hb2.size;omega
   go_wp2
   refine bodyPost_ret (v:=.agg #[.int .i64 0,.int .i64 0,.int .i64 0,.int .i64 0]) (by simp [results,Tryz.results159,go_sem, *]) rfl ⟨rfl,?_⟩
   exact bel_set4 (bel_next (bel_next (bel_three w _ _ _) hb1) hb2) (by omega) _ _ _ _
  ·have r1:M.both ⟨x,y,d,e⟩ ⟨x',y',d',e'⟩=⟨mx x x',mx y y',mx d d',mx e e'⟩:=by simp [M.both,ha,hb]
   rw [r1]
   clear r1
   go_enter Tryz.func159,Tryz.ntmps159
   go_wp2_with fail
   refine (monOkS_of ha _).mono ?_
   rintro r w1 ⟨rfl,hb1⟩
   obtain ⟨hc1,hf1⟩:=bcell hb1
   have hz1:w.heap.size+1+1<w1.heap.size:=by have:=hb1.size;simp at this;omega
   have hz0:w.heap.size+1<w1.heap.size:=by omega
   have hzz:w.heap.size<w1.heap.size:=by omega
   go_wp2_with fail
   refine (monOkS_of hb _).mono ?_
   rintro r w2 ⟨rfl,hb2⟩
   obtain ⟨hc2,hf2⟩:=bcell hb2
   have hz2:w.heap.size+1+1<w2.heap.size:=by have:=hb2.size;omega
   have q0:w2.cell? ⟨w.heap.size,0,none⟩=some (.int .i64 x):=by go_simp
   have q1:w2.cell? ⟨w.heap.size,1,none⟩=some (.int .i64 y):=by go_simp
   have q2:w2.cell? ⟨w.heap.size,2,none⟩=some (.int .i64 d):=by go_simp
   have q3:w2.cell? ⟨w.heap.size,3,none⟩=some (.int .i64 e):=by go_simp
   have p0:w2.cell? ⟨w.heap.size+1,0,none⟩=some (.int .i64 x'):=by go_simp
   have p1:w2.cell? ⟨w.heap.size+1,1,none⟩=some (.int .i64 y'):=by go_simp
   have p2:w2.cell? ⟨w.heap.size+1,2,none⟩=some (.int .i64 d'):=by go_simp
   have p3:w2.cell? ⟨w.heap.size+1,3,none⟩=some (.int .i64 e'):=by go_simp
   have t0:w2.cell? ⟨w.heap.size+1+1,0,none⟩=some (.int .i64 0):=by go_simp
   have t1:w2.cell? ⟨w.heap.size+1+1,1,none⟩=some (.int .i64 0):=by go_simp
   have t2:w2.cell? ⟨w.heap.size+1+1,2,none⟩=some (.int .i64 0):=by go_simp
   have t3:w2.cell? ⟨w.heap.size+1+1,3,none⟩=some (.int .i64 0):=by go_simp
   have z0:∀ i,w2.frozen? ⟨w.heap.size+1+1,i,none⟩=false:=fun i=>by go_simp
   have HB:=Hid.mk' (bel_next (bel_next (bel_three w _ _ _) hb1) hb2)
   clear hc1 hf1 hc2 hf2 hb1 hb2
   go_wp2_with fail
   have hS0:S8 w2 w.heap.size x y d e x' y' d' e':=⟨q0,q1,q2,q3,p0,p1,p2,p3⟩
   go_region_held3 (fun u=>u.cell? ⟨w.heap.size,0,none⟩=some (.int .i64 x)∧u.cell? ⟨w.heap.size,1,none⟩=some (.int .i64 y)∧u.cell? ⟨w.heap.size,2,none⟩=some (.int .i64 d)∧u.cell? ⟨w.heap.size,3,none⟩=some (.int .i64 e)∧u.cell? ⟨w.heap.size+1,0,none⟩=some (.int .i64 x')∧u.cell? ⟨w.heap.size+1,1,none⟩=some (.int .i64 y')∧u.cell? ⟨w.heap.size+1,2,none⟩=some (.int .i64 d')∧u.cell? ⟨w.heap.size+1,3,none⟩=some (.int .i64 e')) (first | exact s8_drew hS0 | exact s8_set (by assumption) (by omega)) (first | (go_at_call 173;refine (maxS _ _ _).mono ?_;rintro r w7 ⟨rfl,hw7⟩;obtain rfl:=hw7.symm;clear hw7))
   go_wp2
   refine bodyPost_ret (v:=.agg #[.int .i64 (mx x x'),.int .i64 (mx y y'),.int .i64 (mx d d'),.int .i64 (mx e e')]) (by simp [results,Tryz.results159,go_sem, *]) rfl ⟨rfl,?_⟩
   exact bel_set4 HB.out.drew (by omega) _ _ _ _
set_option maxHeartbeats 4000000 in
theorem monBothI (x y d e x' y' d' e':Int) (w:World) :
  Calls Tryz.prog 152 #[.agg #[.int .i64 x,.int .i64 y,.int .i64 d,.int .i64 e],.agg #[.int .i64 x',.int .i64 y',.int .i64 d',.int .i64 e']] w fun r w'=>r=.returned (.agg #[.int .i64 (M.both ⟨x,y,d,e⟩ ⟨x',y',d',e'⟩).x,.int .i64 (M.both ⟨x,y,d,e⟩ ⟨x',y',d',e'⟩).y,.int .i64 (M.both ⟨x,y,d,e⟩ ⟨x',y',d',e'⟩).d,.int .i64 (M.both ⟨x,y,d,e⟩ ⟨x',y',d',e'⟩).e])∧Below w.heap.size w w':=by
 cases ha:M.ok ⟨x,y,d,e⟩
 ·have r1:M.both ⟨x,y,d,e⟩ ⟨x',y',d',e'⟩=M.zero:=by simp [M.both,ha]
  rw [r1]
  simp only [M.zero]
  clear r1
  go_enter Tryz.func152,Tryz.ntmps152
  go_wp2_with fail
  refine (monOkI_of ha _).mono ?_
  rintro r w1 ⟨rfl,hb1⟩
  obtain ⟨hc1,hf1⟩:=bcell hb1
  have hz1:w.heap.size+1+1<w1.heap.size:=by have:=hb1.size;simp at this;omega
  go_wp2
  refine bodyPost_ret (v:=.agg #[.int .i64 0,.int .i64 0,.int .i64 0,.int .i64 0]) (by simp [results,Tryz.results152,go_sem, *]) rfl ⟨rfl,?_⟩
  exact bel_set4 (bel_next (bel_three w _ _ _) hb1) (by omega) _ _ _ _
 ·cases hb:M.ok ⟨x',y',d',e'⟩
  ·have r1:M.both ⟨x,y,d,e⟩ ⟨x',y',d',e'⟩=M.zero:=by simp [M.both,hb]
   rw [r1]
   simp only [M.zero]
   clear r1
   go_enter Tryz.func152,Tryz.ntmps152
   go_wp2_with fail
   refine (monOkI_of ha _).mono ?_
   rintro r w1 ⟨rfl,hb1⟩
   obtain ⟨hc1,hf1⟩:=bcell hb1
   have hz1:w.heap.size+1+1<w1.heap.size:=by have:=hb1.size;simp at this;omega
   go_wp2_with fail
   refine (monOkI_of hb _).mono ?_
   rintro r w2 ⟨rfl,hb2⟩
   obtain ⟨hc2,hf2⟩:=bcell hb2
   have hz2:w.heap.size+1+1<w2.heap.size:=by have:=hb2.size;omega
   go_wp2
   refine bodyPost_ret (v:=.agg #[.int .i64 0,.int .i64 0,.int .i64 0,.int .i64 0]) (by simp [results,Tryz.results152,go_sem, *]) rfl ⟨rfl,?_⟩
   exact bel_set4 (bel_next (bel_next (bel_three w _ _ _) hb1) hb2) (by omega) _ _ _ _
  ·have r1:M.both ⟨x,y,d,e⟩ ⟨x',y',d',e'⟩=⟨mx x x',mx y y',mx d d',mx e e'⟩:=by simp [M.both,ha,hb]
   rw [r1]
   clear r1
   go_enter Tryz.func152,Tryz.ntmps152
   go_wp2_with fail
   refine (monOkI_of ha _).mono ?_
   rintro r w1 ⟨rfl,hb1⟩
   obtain ⟨hc1,hf1⟩:=bcell hb1
   have hz1:w.heap.size+1+1<w1.heap.size:=by have:=hb1.size;simp at this;omega
   have hz0:w.heap.size+1<w1.heap.size:=by omega
   have hzz:w.heap.size<w1.heap.size:=by omega
   go_wp2_with fail
   refine (monOkI_of hb _).mono ?_
   rintro r w2 ⟨rfl,hb2⟩
   obtain ⟨hc2,hf2⟩:=bcell hb2
   have hz2:w.heap.size+1+1<w2.heap.size:=by have:=hb2.size;omega
   have q0:w2.cell? ⟨w.heap.size,0,none⟩=some (.int .i64 x):=by go_simp
   have q1:w2.cell? ⟨w.heap.size,1,none⟩=some (.int .i64 y):=by go_simp
   have q2:w2.cell? ⟨w.heap.size,2,none⟩=some (.int .i64 d):=by go_simp
   have q3:w2.cell? ⟨w.heap.size,3,none⟩=some (.int .i64 e):=by go_simp
   have p0:w2.cell? ⟨w.heap.size+1,0,none⟩=some (.int .i64 x'):=by go_simp
   have p1:w2.cell? ⟨w.heap.size+1,1,none⟩=some (.int .i64 y'):=by go_simp
   have p2:w2.cell? ⟨w.heap.size+1,2,none⟩=some (.int .i64 d'):=by go_simp
   have p3:w2.cell? ⟨w.heap.size+1,3,none⟩=some (.int .i64 e'):=by go_simp
   have t0:w2.cell? ⟨w.heap.size+1+1,0,none⟩=some (.int .i64 0):=by go_simp
   have t1:w2.cell? ⟨w.heap.size+1+1,1,none⟩=some (.int .i64 0):=by go_simp
   have t2:w2.cell? ⟨w.heap.size+1+1,2,none⟩=some (.int .i64 0):=by go_simp
   have t3:w2.cell? ⟨w.heap.size+1+1,3,none⟩=some (.int .i64 0):=by go_simp
   have z0:∀ i,w2.frozen? ⟨w.heap.size+1+1,i,none⟩=false:=fun i=>by go_simp
   have HB:=Hid.mk' (bel_next (bel_next (bel_three w _ _ _) hb1) hb2)
   clear hc1 hf1 hc2 hf2 hb1 hb2
   go_wp2
   all_goals
    refine bodyPost_ret (v:=.agg #[.int .i64 (mx x x'),.int .i64 (mx y y'),.int .i64 (mx d d'),.int .i64 (mx e e')]) (by simp [results,Tryz.results152,go_sem, *];(repeat' apply And.intro) <;> (unfold mx;split <;> omega)) rfl ⟨rfl,?_⟩
    exact bel_set4 HB.out (by omega) _ _ _ _
end Go.Proofs.YtdidlcjhodejjaaGreat
namespace Go.Proofs.YtdidlcjhodejjaaGreat
open Go.RowKit Go.Deep Go.Joins
set_option linter.unusedVariables false
def RdS (w:World) (a:Option Addr) (n cap:Nat) (ad:Nat→Option Addr) (ln cp:Nat→Nat) (f:Nat→Nat→T):Prop:=
 n≤cap∧n * 40≤140737488351232∧(n=0∨∃ b off,a=some ⟨b,off,none⟩∧b<w.heap.size∧∀ i,i<n→w.cell? ⟨b,off+i,none⟩=some (.slice (ad i) (ln i) (cp i)))∧∀ i,i<n→Rd w (ad i) (ln i) (cp i) (f i)
theorem RdS.below {w w':World} {a:Option Addr} {n cap:Nat} {ad:Nat→Option Addr} {ln cp:Nat→Nat} {f:Nat→Nat→T} (h:RdS w a n cap ad ln cp f) (hb:Below w.heap.size w w'):RdS w' a n cap ad ln cp f:=by
 refine ⟨h.1,h.2.1,?_,fun i hi=>(h.2.2.2 i hi).below hb⟩
 rcases h.2.2.1 with h0 | ⟨b,off,he,hlt,hc⟩
 ·exact .inl h0
 ·exact .inr ⟨b,off,he,Nat.lt_of_lt_of_le hlt hb.size,fun i hi=>(hb.cell (p:=⟨b,off+i,none⟩) hlt).trans (hc i hi)⟩
set_option maxHeartbeats 4000000 in
theorem szLists (a:Option Addr) (n cap:Nat) (ad:Nat→Option Addr) (ln cp:Nat→Nat) (l:Int) (w:World) (hn:(n:Int)≤9223372036854775807) (hl:0≤l) (hl':l≤1048576) (h3:n=0∨∃ b off,a=some ⟨b,off,none⟩∧b<w.heap.size∧∀ i,i<n→w.cell? ⟨b,off+i,none⟩=some (.slice (ad i) (ln i) (cp i))) (hln:∀ i,i<n→(ln i:Int)≤9223372036854775807) :
  Calls Tryz.prog 9 #[.slice a n cap,.int .i64 l] w fun r w'=>∃ z:Int,r=.returned (.int .i64 z)∧w'=w∧z≤l∧(0≤z→(n:Int)≤l∧∀ i,i<n→(ln i:Int)≤l):=by
 by_cases hneg:l - n<0
 ·go_enter Tryz.func9,Tryz.ntmps9
  go_wp2
  go_ret
  exact ⟨-1,rfl,rfl,by omega,fun h=>by omega⟩
 ·go_enter Tryz.func9,Tryz.ntmps9
  go_wp2
  go_loopw [1,5] (fun lv iv wr=>∃ (i:Nat) (z:Int),i≤n∧iv=.int .i64 (i:Int)∧lv=.int .i64 z∧0≤z∧z≤l∧(∀ j,j<i→(ln j:Int)≤l)∧wr=w) (fun _ v _=>n - (intOf v).toNat)
  case atStart=>exact ⟨0,l - n,Nat.zero_le _,rfl,rfl,by omega,by omega,fun j hj=>by omega,rfl⟩
  case round=>
   obtain ⟨i,z,hi,rfl,rfl,z0,z1,hj,rfl⟩:=hrel
   have HJ:=Hid.mk' hj
   clear hj
   by_cases hlt:i<n
   ·rcases h3 with h0 | ⟨b,off,rfl,hblt,hcl⟩
    ·omega
    have hil:(i:Int)<(n:Int):=by omega
    have hc:=hcl i hlt
    have hli:=hln i hlt
    clear hcl hln
    go_wp2_with fail
    refine (szTerms _ _ _ _ _ hli z0 (by omega)).mono ?_
    by_cases hz:z - ln i<0
    ·rw [if_pos hz]
     rintro e w' ⟨rfl,rfl⟩
     go_wp2
     go_ret
     exact ⟨-1,rfl,rfl,by omega,fun h=>by omega⟩
    ·rw [if_neg hz]
     obtain ⟨y,hy⟩:∃ y,z - (ln i:Int)=y:=⟨_,rfl⟩
     rw [hy]
     rintro e w' ⟨rfl,rfl⟩
     have hy0:¬ y<0:=by omega
     go_wp2
     go_roundw
     case rel=>exact ⟨i+1,y,by omega,by go_num,rfl,by omega,by omega,fun j hj=>by
      by_cases e:j=i
      ·rw [e];omega
      ·exact HJ.out j (by omega),by first | trivial | rfl⟩
     case measure=>simp [intOf];omega
   ·have hnl:¬ (i:Int)<(n:Int):=by omega
    have hie:i=n:=by omega
    subst hie
    go_wp2
    go_ret
    exact ⟨z,rfl,rfl,z1,fun _=>⟨by omega,HJ.out⟩⟩
theorem infoS:(Tryz.prog.info? 45).map (fun i=>(i.zero,i.size,i.bytes))=some (some (.slice none 0 0),1,24):=by kernel_rfl
theorem make_lists {ops:Array Oper} {rest:List Oper} {o:Oper} {a:Act} {Q:Exit→Act→World→Prop} (w:World)
  (hg:o.guard=none) (l c:Operand) (hop:o.op=Op.makeSlice 24 l c)
  (n:Nat) (hl:a.eval l=.int .i64 (n:Int)) (hc:a.eval c=.int .i64 (n:Int)) (hbytes:n * 40≤140737488351232)
  (hK:(w.alloc (.cells (madeCells #[.slice none 0 0] n) 45)).rowIs w.heap.size 45 n (fun _=>.slice none 0 0)→wpList Tryz.prog ops Q rest (a.put o.dst (.slice (some ⟨w.heap.size,0,none⟩) n n)) (w.alloc (.cells (madeCells #[.slice none 0 0] n) 45))) :
  wpList Tryz.prog ops Q (o :: rest) a w:=by
 obtain ⟨i,hi,hzz⟩:=Option.map_eq_some_iff.1 infoS
 simp only [Prod.mk.injEq] at hzz
 obtain ⟨hz,hs,hb⟩:=hzz
 refine wpList_plain hg fun K hK'=>?_
 have hr:=run_make (P:=Tryz.prog) w 24 45 i _ Tryz.underlying24 hi hz .i64 .i64 (n:Int) (n:Int) (by omega) (Int.le_refl _) (by rw [hb];omega) (by omega)
 simp only [Int.toNat_natCast,hs,Value.cells,Nat.mul_one] at hr
 unfold Oper.wp
 simp [execOp,hop,hl,hc,hr,Result.andThen]
 refine hK' _ _ (hK ?_)
 refine ⟨_,Go.Deep.blk_alloc_new _ _,size_madeCells _ _,fun j hj=>?_⟩
 simp [madeCells,hj,Nat.mod_one]
def partS (B ln:Nat→Nat) (k j:Nat):Value:=if j<k then .slice (some ⟨B j,0,none⟩) (ln j) (ln j) else .slice none 0 0
theorem partS_next {w:World} {g n k:Nat} {B ln:Nat→Nat} {v:Nat} (h:w.rowIs g 45 n (partS B ln k)) :
  (w.setCell ⟨g,k,none⟩ (.slice (some ⟨v,0,none⟩) (ln k) (ln k))).rowIs g 45 n (partS (fun j=>if j=k then v else B j) ln (k+1)):=by
 refine (h.set _ _).congr fun j hj=>?_
 by_cases e:j=k
 ·subst e
  simp [partS]
 ·unfold partS
  by_cases hl:j<k
  ·rw [if_pos (show j<k+1 by omega)]
   simp [e,hl]
  ·rw [if_neg (show ¬ j<k+1 by omega)]
   simp [e,hl]
set_option maxHeartbeats 4000000 in
theorem toLists (w:World) (a:Option Addr) (n cap:Nat) (ad:Nat→Option Addr) (ln cp:Nat→Nat) (f:Nat→Nat→T) (h:RdS w a n cap ad ln cp f) :
  Calls Tryz.prog 11 #[.slice a n cap] w fun r w'=>∃ B:Nat→Nat,r=.returned (.slice (some ⟨w.heap.size,0,none⟩) n n)∧Below w.heap.size w w'∧w'.rowIs w.heap.size 45 n (partS B ln n)∧∀ i,i<n→w.heap.size<B i∧Own w' (B i) (ln i) (f i):=by
 have hn:(n:Int)≤140737488351232:=by have:=h.2.1;omega
 have h2:=h.2.1
 have HH:=Hid.mk' h
 clear h
 go_enter Tryz.func11,Tryz.ntmps11
 go_wp2_with (at_make;refine make_lists _ rfl _ _ rfl n rfl rfl (by omega) ?_;intro hrow)
 go_loopw [4] (fun i wr=>∃ (k:Nat) (B:Nat→Nat),k≤n∧i=.int .i64 k∧Below w.heap.size w wr∧wr.rowIs w.heap.size 45 n (partS B ln k)∧∀ i,i<k→w.heap.size<B i∧Own wr (B i) (ln i) (f i)) (fun i _=>n - (intOf i).toNat)
 case atStart=>exact ⟨0,fun _=>0,Nat.zero_le _,rfl,(Below.refl _ _).alloc (Nat.le_refl _) _,hrow.congr fun j _=>by simp [partS],fun i hi=>by omega⟩
 case round=>
  obtain ⟨k,B,hk,rfl,hB,hR,hO⟩:=hrel
  by_cases hlt:k<n
  ·rcases HH.out.2.2.1 with h0 | ⟨b,off,rfl,hblt,hcl⟩
   ·omega
   have hkn:(k:Int)<(n:Int):=by omega
   have g0:wr.cell? ⟨b,off+k,none⟩=some (.slice (ad k) (ln k) (cp k)):=(hB.cell (p:=⟨b,off+k,none⟩) hblt).trans (hcl k hlt)
   have HR:=Hid.mk' hR
   have HO:=Hid.mk' hO
   have HB:=Hid.mk' hB
   have HK:=Hid.mk' ((HH.out.2.2.2 k hlt).below hB)
   clear hR hcl hO
   go_wp2_with fail
   refine (toTerms _ _ _ _ (f k) HK.out).mono ?_
   rintro r w1 ⟨rfl,hb,ho⟩
   have hR1:=HR.out.of_block (hb.block w.heap.size (HR.out.lt))
   have hB1:=HB.out.trans (hb.mono HB.out.size)
   have hsz:w.heap.size<wr.heap.size:=HR.out.lt
   have q0:=hR1.cell (i:=k) hlt
   have fz:=fun i=>hR1.frozen i
   obtain ⟨V,hV⟩:∃ V,wr.heap.size=V:=⟨_,rfl⟩
   rw [hV] at ho ⊢
   have HN:=Hid.mk' (partS_next (v:=V) hR1)
   have HO2:Hid (∀ i,i<k+1→w.heap.size<(if i=k then V else B i)∧Own w1 (if i=k then V else B i) (ln i) (f i)):=fun i hi=>by
    by_cases e:i=k
    ·rw [if_pos e,e]
     exact ⟨by omega,ho⟩
    ·rw [if_neg e]
     have:=HO.out i (by omega)
     exact ⟨this.1,this.2.below hb this.2.lt⟩
   have HB1:=Hid.mk' hB1
   clear hR1 HR hb ho HO hB1 hB
   go_wp2
   go_roundw
   case rel=>
    refine ⟨k+1,_,by omega,by go_num,HB1.out.setCell (Nat.le_refl _) _,HN.out,fun i hi=>?_⟩
    have:=HO2.out i hi
    refine ⟨this.1,this.2.of_block ?_⟩
    exact Below.heap_setCell _ _ _ _ (Nat.ne_of_gt this.1)
   case measure=>simp [intOf];omega
  ·have hkn:k=n:=by omega
   subst hkn
   have HR:=Hid.mk' hR
   have HO:=Hid.mk' hO
   clear hR hO
   go_wp2
   go_ret
   exact ⟨B,rfl,hB,HR.out,HO.out⟩
theorem lists_rd {w:World} {g n:Nat} {B ln:Nat→Nat} {f:Nat→Nat→T} (hR:w.rowIs g 45 n (partS B ln n)) (hO:∀ i,i<n→Own w (B i) (ln i) (f i)) (hn:n * 40≤140737488351232) (hl:∀ i,i<n→ln i * 40≤140737488351232):RdS w (some ⟨g,0,none⟩) n n (fun i=>some ⟨B i,0,none⟩) ln ln f:=
 ⟨Nat.le_refl _,hn,.inr ⟨g,0,rfl,hR.lt,fun i hi=>by
  have:=hR.cell (i:=i) hi
  rw [Nat.zero_add,this]
  unfold partS
  rw [if_pos hi]⟩,fun i hi=>(hO i hi).rd (hl i hi)⟩
end Go.Proofs.YtdidlcjhodejjaaGreat
namespace Go.Proofs.YtdidlcjhodejjaaGreat
open Go.RowKit Go.Deep Go.Joins
set_option linter.unusedVariables false
def lstOk (n:Nat) (ln:Nat→Nat) (f:Nat→Nat→T):Bool:=decide (n≤12∧∀ i,i<n→ln i≠0∧polOk (ln i) (f i)=true)
set_option maxHeartbeats 4000000 in
theorem lstOkI (w:World) (a:Option Addr) (n cap:Nat) (ad:Nat→Option Addr) (ln cp:Nat→Nat) (f:Nat→Nat→T) (h:RdS w a n cap ad ln cp f) :
  Calls Tryz.prog 91 #[.slice a n cap] w fun r w'=>r=.returned (.bool (lstOk n ln f))∧Below w.heap.size w w':=by
 have hn:(n:Int)≤140737488351232:=by have:=h.2.1;omega
 have HH:=Hid.mk' h
 clear h
 by_cases hbig:12<n
 ·have e:lstOk n ln f=false:=decide_eq_false (fun hh=>by omega)
  have hb:(12:Int)<(n:Int):=by omega
  rw [e]
  go_enter Tryz.func91,Tryz.ntmps91
  go_wp2
  go_ret
  exact ⟨rfl,Below.refl _ _⟩
 ·have hnb:¬ (12:Int)<(n:Int):=by omega
  go_enter Tryz.func91,Tryz.ntmps91
  go_wp2
  go_loopw [10] (fun v wr=>∃ i:Nat,i≤n∧v=.int .i64 (i:Int)∧Below w.heap.size w wr∧∀ j,j<i→ln j≠0∧polOk (ln j) (f j)=true) (fun v _=>n - (intOf v).toNat)
  case atStart=>exact ⟨0,Nat.zero_le _,rfl,Below.refl _ _,fun j hj=>by omega⟩
  case round=>
   obtain ⟨i,hi,rfl,hB,hJ⟩:=hrel
   by_cases hlt:i<n
   ·rcases HH.out.2.2.1 with h0 | ⟨b,off,rfl,hblt,hcl⟩
    ·omega
    have hil:(i:Int)<(n:Int):=by omega
    have g0:wr.cell? ⟨b,off+i,none⟩=some (.slice (ad i) (ln i) (cp i)):=(hB.cell (p:=⟨b,off+i,none⟩) hblt).trans (hcl i hlt)
    have HK:=Hid.mk' ((HH.out.2.2.2 i hlt).below hB)
    have HB:=Hid.mk' hB
    have HJ:=Hid.mk' hJ
    clear hcl hB hJ
    by_cases h0:ln i=0
    ·have HE:Hid (lstOk n ln f=false):=decide_eq_false (fun hh=>(hh.2 i hlt).1 h0)
     have hz:((ln i:Int) == 0)=true:=by rw [h0];rfl
     clear h0
     go_wp2
     go_ret
     exact ⟨congrArg (fun z=>Ending.returned (Value.bool z)) HE.out.symm,HB.out⟩
    ·have hz:((ln i:Int) == 0)=false:=by rw [beq_eq_false_iff_ne];omega
     have HZ:=Hid.mk' h0
     clear h0
     cases hp:polOk (ln i) (f i)
     ·have HE:Hid (lstOk n ln f=false):=decide_eq_false (fun hh=>by have:=(hh.2 i hlt).2;rw [hp] at this;cases this)
      go_wp2_with fail
      refine (polOkI _ _ _ _ (f i) HK.out).mono ?_
      rw [hp]
      rintro r w1 ⟨rfl,hb⟩
      have HB1:=Hid.mk' (bel_next HB.out hb)
      clear hb
      go_wp2
      go_ret
      exact ⟨congrArg (fun z=>Ending.returned (Value.bool z)) HE.out.symm,HB1.out⟩
     ·go_wp2_with fail
      refine (polOkI _ _ _ _ (f i) HK.out).mono ?_
      rw [hp]
      rintro r w1 ⟨rfl,hb⟩
      have HB1:=Hid.mk' (bel_next HB.out hb)
      clear hb
      go_wp2
      go_roundw
      case rel=>exact ⟨i+1,by omega,by go_num,HB1.out,fun j hj=>by
       by_cases e:j=i
       ·rw [e];exact ⟨HZ.out,hp⟩
       ·exact HJ.out j (by omega)⟩
      case measure=>simp [intOf];omega
   ·have hnl:¬ (i:Int)<(n:Int):=by omega
    have hie:i=n:=by omega
    subst hie
    have HE:Hid (lstOk i ln f=true):=decide_eq_true ⟨by omega,hJ⟩
    have HB:=Hid.mk' hB
    clear hB hJ
    go_wp2
    go_ret
    exact ⟨congrArg (fun z=>Ending.returned (Value.bool z)) HE.out.symm,HB.out⟩
set_option maxHeartbeats 4000000 in
theorem lstOkS (w:World) (a:Option Addr) (n cap:Nat) (ad:Nat→Option Addr) (ln cp:Nat→Nat) (f:Nat→Nat→T) (h:RdS w a n cap ad ln cp f) :
  Calls Tryz.prog 25 #[.slice a n cap] w fun r w'=>r=.returned (.bool (lstOk n ln f))∧Below w.heap.size w w':=by
 have hn:(n:Int)≤140737488351232:=by have:=h.2.1;omega
 have HH:=Hid.mk' h
 clear h
 by_cases hbig:12<n
 ·have e:lstOk n ln f=false:=decide_eq_false (fun hh=>by omega)
  have hb:(12:Int)<(n:Int):=by omega
  rw [e]
  go_enter Tryz.func25,Tryz.ntmps25
  go_wp2
  go_ret
  exact ⟨rfl,Below.refl _ _⟩
 ·have hnb:¬ (12:Int)<(n:Int):=by omega
  go_enter Tryz.func25,Tryz.ntmps25
  go_wp2
  go_loopw [3] (fun v wr=>∃ i:Nat,i≤n∧v=.int .i64 (i:Int)∧Below w.heap.size w wr∧∀ j,j<i→ln j≠0∧polOk (ln j) (f j)=true) (fun v _=>n - (intOf v).toNat)
  case atStart=>exact ⟨0,Nat.zero_le _,rfl,Below.refl _ _,fun j hj=>by omega⟩
  case round=>
   obtain ⟨i,hi,rfl,hB,hJ⟩:=hrel
   by_cases hlt:i<n
   ·rcases HH.out.2.2.1 with h0 | ⟨b,off,rfl,hblt,hcl⟩
    ·omega
    have hil:(i:Int)<(n:Int):=by omega
    have g0:wr.cell? ⟨b,off+i,none⟩=some (.slice (ad i) (ln i) (cp i)):=(hB.cell (p:=⟨b,off+i,none⟩) hblt).trans (hcl i hlt)
    have HG:Hid (∀ w',Below wr.heap.size wr w'→w'.cell? ⟨b,off+i,none⟩=some (.slice (ad i) (ln i) (cp i))):=fun w' hb=>(hb.cell (p:=⟨b,off+i,none⟩) (Nat.lt_of_lt_of_le hblt hB.size)).trans g0
    have HK:=Hid.mk' ((HH.out.2.2.2 i hlt).below hB)
    have HB:=Hid.mk' hB
    have HJ:=Hid.mk' hJ
    clear hcl hB hJ
    cases hp:polOk (ln i) (f i)
    ·have HE:Hid (lstOk n ln f=false):=decide_eq_false (fun hh=>by have:=(hh.2 i hlt).2;rw [hp] at this;cases this)
     go_wp2_with fail
     refine (polOkS _ _ _ _ (f i) HK.out).mono ?_
     rw [hp]
     rintro r w1 ⟨rfl,hb⟩
     have HB1:=Hid.mk' (bel_next HB.out hb)
     clear hb
     go_wp2
     go_ret
     exact ⟨congrArg (fun z=>Ending.returned (Value.bool z)) HE.out.symm,HB1.out⟩
    ·go_wp2_with fail
     refine (polOkS _ _ _ _ (f i) HK.out).mono ?_
     rw [hp]
     rintro r w1 ⟨rfl,hb⟩
     have HB1:=Hid.mk' (bel_next HB.out hb)
     have g1:=HG.out w1 hb
     clear hb g0
     by_cases h0:ln i=0
     ·have HE:Hid (lstOk n ln f=false):=decide_eq_false (fun hh=>(hh.2 i hlt).1 h0)
      have hz:((ln i:Int) == 0)=true:=by rw [h0];rfl
      clear h0
      go_wp2
      go_ret
      exact ⟨congrArg (fun z=>Ending.returned (Value.bool z)) HE.out.symm,HB1.out⟩
     ·have hz:((ln i:Int) == 0)=false:=by rw [beq_eq_false_iff_ne];omega
      have HZ:=Hid.mk' h0
      clear h0
      go_wp2
      go_roundw
      case rel=>exact ⟨i+1,by omega,by go_num,HB1.out,fun j hj=>by
       by_cases e:j=i
       ·rw [e];exact ⟨HZ.out,hp⟩
       ·exact HJ.out j (by omega)⟩
      case measure=>simp [intOf];omega
   ·have hnl:¬ (i:Int)<(n:Int):=by omega
    have hie:i=n:=by omega
    subst hie
    have HE:Hid (lstOk i ln f=true):=decide_eq_true ⟨by omega,hJ⟩
    have HB:=Hid.mk' hB
    clear hB hJ
    go_wp2
    go_ret
    exact ⟨congrArg (fun z=>Ending.returned (Value.bool z)) HE.out.symm,HB.out⟩
theorem eqLists (w:World) (a a':Option Addr) (n cap cap':Nat) (ad ad':Nat→Option Addr) (ln cp cp':Nat→Nat) (f:Nat→Nat→T) (h:RdS w a n cap ad ln cp f) (h':RdS w a' n cap' ad' ln cp' f) :
  Calls Tryz.prog 13 #[.slice a n cap,.slice a' n cap'] w fun r w'=>r=.returned (.bool true)∧Below w.heap.size w w':=by
 have hn:(n:Int)≤140737488351232:=by have:=h.2.1;omega
 have HH:=Hid.mk' h
 have HH':=Hid.mk' h'
 clear h h'
 go_enter Tryz.func13,Tryz.ntmps13
 go_wp2
 go_loopw [5] (fun v wr=>∃ i:Nat,i≤n∧v=.int .i64 (i:Int)∧Below w.heap.size w wr) (fun v _=>n - (intOf v).toNat)
 case atStart=>exact ⟨0,Nat.zero_le _,rfl,Below.refl _ _⟩
 case round=>
  obtain ⟨i,hi,rfl,hB⟩:=hrel
  by_cases hlt:i<n
  ·rcases HH.out.2.2.1 with h0 | ⟨b,off,rfl,hblt,hcl⟩
   ·omega
   rcases HH'.out.2.2.1 with h0 | ⟨b',off',rfl,hblt',hcl'⟩
   ·omega
   have hil:(i:Int)<(n:Int):=by omega
   have hbr:b<wr.heap.size:=Nat.lt_of_lt_of_le hblt hB.size
   have hbr':b'<wr.heap.size:=Nat.lt_of_lt_of_le hblt' hB.size
   have ne:=Ext.there wr
   have g0:wr.cell? ⟨b,off+i,none⟩=some (.slice (ad i) (ln i) (cp i)):=(hB.cell (p:=⟨b,off+i,none⟩) hblt).trans (hcl i hlt)
   have g1:wr.cell? ⟨b',off'+i,none⟩=some (.slice (ad' i) (ln i) (cp' i)):=(hB.cell (p:=⟨b',off'+i,none⟩) hblt').trans (hcl' i hlt)
   have s0:∀ u:Ext wr,u.1.cell? ⟨b,off+i,none⟩=some (.slice (ad i) (ln i) (cp i)):=fun u=>(u.cell hbr).trans g0
   have s1:∀ u:Ext wr,u.1.cell? ⟨b',off'+i,none⟩=some (.slice (ad' i) (ln i) (cp' i)):=fun u=>(u.cell hbr').trans g1
   have HK:=Hid.mk' ((HH.out.2.2.2 i hlt).below hB)
   have HK':=Hid.mk' ((HH'.out.2.2.2 i hlt).below hB)
   have HB:=Hid.mk' hB
   have hcall:∀ u:Ext wr,Calls Tryz.prog 51 #[.slice (ad i) (ln i) (cp i),.slice (ad' i) (ln i) (cp' i)] u.1 fun r w'=>r=.returned (.bool true)∧Below u.1.heap.size u.1 w':=fun u=>by
    have:=eqTerms u.1 (ad i) (ad' i) (ln i) (cp i) (ln i) (cp' i) (f i) (f i) (HK.out.below u.2) (HK'.out.below u.2)
    rw [show termsEq (ln i) (f i) (ln i) (f i)=true from decide_eq_true ⟨rfl,fun j _=>T.eqB_iff.2 rfl⟩] at this
    exact this
   clear hcl hcl' hB g0 g1
   go_wp2_with fail
   refine wp_region_ext (by kernel_rfl) (by kernel_rfl) ?_
   repeat (go_big_quiet_step (first | (go_at_call 51;exact ext_grows (hcall _)) | fail))
   refine wpQuiet_nil ?_
   rintro _ ⟨v,rfl⟩
   have HV:=Hid.mk' v.2
   clear s0 s1 ne hcall
   go_wp2
   go_roundw
   case rel=>exact ⟨i+1,by omega,by go_num,bel_next HB.out HV.out⟩
   case measure=>simp [intOf];omega
  ·have hnl:¬ (i:Int)<(n:Int):=by omega
   go_wp2
   go_ret
   exact ⟨rfl,hB⟩
end Go.Proofs.YtdidlcjhodejjaaGreat
