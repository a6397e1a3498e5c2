/-
  The two terms of a pair of operators: the model.
  The two terms of a pair of operators: what is true of them.
  What is left of a pair of operators: the program and the model.
-/
import Derived.Test.YtncffcaabnjioaaGreatMaw
set_option maxHeartbeats 4000000
set_option maxRecDepth 100000
namespace Go.Proofs.YtncffcaabnjioaaGreat
open Go.RowKit Go.Deep Go.Joins
set_option linter.unusedVariables false
abbrev L6 (A B C:Nat) (x y:Int) (m:M) (u:World):Prop:=u.cell? ⟨A,0,none⟩=some (.int .i64 x)∧u.cell? ⟨B,0,none⟩=some (.int .i64 y)∧u.cell? ⟨C,0,none⟩=some (.int .i64 m.x)∧u.cell? ⟨C,1,none⟩=some (.int .i64 m.y)∧u.cell? ⟨C,2,none⟩=some (.int .i64 m.d)∧u.cell? ⟨C,3,none⟩=some (.int .i64 m.e)
theorem ND {A B C D:Nat} {x y:Int} {m:M} {u:World} {v0 v1 v2 v3 v4:Value} (h:L6 A B C x y m u) (h1:A≠D) (h2:B≠D) (h3:C≠D):L6 A B C x y m (((((u.setCell ⟨D,0,none⟩ v0).setCell ⟨D,1,none⟩ v1).setCell ⟨D,2,none⟩ v2).setCell ⟨D,3,none⟩ v3).setCell ⟨D,4,none⟩ v4).drew:=
 have key:∀v:World,L6 A B C x y m v→L6 A B C x y m v.drew:=fun v h=>h
 key _ ⟨(pV h1).trans h.1,(pV h2).trans h.2.1,(pV h3).trans h.2.2.1,(pV h3).trans h.2.2.2.1,(pV h3).trans h.2.2.2.2.1,(pV h3).trans h.2.2.2.2.2⟩
abbrev Q5 (B:Nat) (q:M) (u:World):Prop:=u.cell? ⟨B,0,none⟩=some (.int .i64 1)∧u.cell? ⟨B,1,none⟩=some (.int .i64 q.x)∧u.cell? ⟨B,2,none⟩=some (.int .i64 q.y)∧u.cell? ⟨B,3,none⟩=some (.int .i64 q.d)∧u.cell? ⟨B,4,none⟩=some (.int .i64 q.e)
theorem Q5.below {B:Nat} {q:M} {u u':World} (h:Q5 B q u) (hb:Below u.heap.size u u'):Q5 B q u':=
 have l:=cU u ⟨B,0,none⟩ h.1
 ⟨(hb.cell (p:=⟨B,0,none⟩) l).trans h.1,(hb.cell (p:=⟨B,1,none⟩) l).trans h.2.1,(hb.cell (p:=⟨B,2,none⟩) l).trans h.2.2.1,(hb.cell (p:=⟨B,3,none⟩) l).trans h.2.2.2.1,(hb.cell (p:=⟨B,4,none⟩) l).trans h.2.2.2.2⟩
theorem Q5.far {w:World} {B b:Nat} {q:M} {v0 v1 v2 v3 v4:Value} (m:Q5 b q w) (h:b≠B):Q5 b q (((((w.setCell ⟨B,0,none⟩ v0).setCell ⟨B,1,none⟩ v1).setCell ⟨B,2,none⟩ v2).setCell ⟨B,3,none⟩ v3).setCell ⟨B,4,none⟩ v4):=
 ⟨(pV h).trans m.1,(pV h).trans m.2.1,(pV h).trans m.2.2.1,(pV h).trans m.2.2.2.1,(pV h).trans m.2.2.2.2⟩
def eW (t l:T):T:=⟨t.c*lT l.c%101,(M.over t.m l.m).1⟩
theorem AG (w:World) (o:Int) (t:T) (b:Option Addr) (m cb:Nat) (g:Nat→T) (hb:Rd w b m cb g) (hm:0<m) (hg:∀i,i<m→(g i).m.ok=true) (t1:0≤t.c) (t2:t.c≤100):Calls Tryz.prog 110 #[.int .i64 o,.agg #[.int .i64 t.c,.int .i64 t.m.x,.int .i64 t.m.y,.int .i64 t.m.d,.int .i64 t.m.e],.slice b m cb] w fun r w'=>r= .returned (.agg #[.int .i64 (eW t (g (aX o g m))).c,.int .i64 (eW t (g (aX o g m))).m.x,.int .i64 (eW t (g (aX o g m))).m.y,.int .i64 (eW t (g (aX o g m))).m.d,.int .i64 (eW t (g (aX o g m))).m.e])∧Below w.heap.size w w':=by
 have hmb:(m:Int)≤140737488351232:=by have:=hb.2.1;omega
 have HG:=aA hb;have HM:=aA hg
 have HB0:=aA (aQ w (.cells #[.int .i64 t.c,.int .i64 t.m.x,.int .i64 t.m.y,.int .i64 t.m.d,.int .i64 t.m.e] 47) (.cells #[.int .i64 0,.int .i64 0,.int .i64 0,.int .i64 0,.int .i64 0] 47));have c1:=fun(W:World) (h:Rd W b m cb g)=>sD W o b m cb g h hm HM.out
 clear hb hg;generalize g (aX o g m)=l at *;obtain⟨q,bv,hq⟩:∃q bv,M.over ⟨t.m.x,t.m.y,t.m.d,t.m.e⟩ ⟨l.m.x,l.m.y,l.m.d,l.m.e⟩=(q,bv):=⟨_,_,rfl⟩
 have e1:eW t l=⟨t.c*lT l.c%101,q⟩:=by unfold eW;rw[show M.over t.m l.m=(q,bv)from hq]
 rw[e1];clear e1;obtain⟨f1,f2⟩:=rR l.c;obtain⟨y,hy⟩:∃y,lT l.c=y:=⟨_,rfl⟩
 have c3:=fun W=>ZI l.c W;rw[hy]at f1 f2 c3⊢;clear hy;have p1:0≤t.c*y:=Int.mul_nonneg t1 f1
 have p2:t.c*y≤10000:=by have h1:t.c*y≤100*y:=Int.mul_le_mul_of_nonneg_right t2 f1;omega
 have p3:IntKind.i64.wrap (t.c*y)=t.c*y:=by rw[IntKind.wrap_i64];omega
 have p4:(t.c*y).tmod 101=t.c*y%101:=Int.tmod_eq_emod_of_nonneg p1;go_enter Tryz.func110,Tryz.ntmps110;go_wp2_with fail;refine(c1 _ (HG.out.below HB0.out)).mono ?_;rintro r w1 ⟨rfl,hb1⟩;have HB1:=aA (aB HB0.out hb1)
 have oA:=((C5.box w 47 t).below (aC (w.alloc (.cells #[.int .i64 t.c,.int .i64 t.m.x,.int .i64 t.m.y,.int .i64 t.m.d,.int .i64 t.m.e] 47)) (.cells #[.int .i64 0,.int .i64 0,.int .i64 0,.int .i64 0,.int .i64 0] 47))).below hb1;have oB:=(bL.box (w.alloc (.cells #[.int .i64 t.c,.int .i64 t.m.x,.int .i64 t.m.y,.int .i64 t.m.d,.int .i64 t.m.e] 47)) 47 bG).below hb1
 rw[World.size_alloc]at oB;have hz1:w.heap.size+1<w1.heap.size:=by have:=hb1.size;simp at this;omega
 have OA:=aA oA;have OB:=aA oB
 have HB2:=aA (HB1.out.alloc HB1.out.size (.cells #[.int .i64 l.c,.int .i64 l.m.x,.int .i64 l.m.y,.int .i64 l.m.d,.int .i64 l.m.e] 47));obtain⟨r0,r1,r2,r3,r4⟩:=oA;clear hb1 c1 oB;have hz0:w.heap.size<w1.heap.size:=by omega
 go_wp2_with fail;clear r0 r1 r2 r3 r4;refine(DJ hq _).mono ?_;rintro r w2 ⟨rfl,hb2⟩;have HB3:=aA (aB HB2.out hb2)
 have oA2:=(OA.out.below (aC w1 (.cells #[.int .i64 l.c,.int .i64 l.m.x,.int .i64 l.m.y,.int .i64 l.m.d,.int .i64 l.m.e] 47))).below hb2;obtain⟨⟨e0,e1,e2,e3,e4⟩,ez⟩:=(OB.out.below (aC w1 (.cells #[.int .i64 l.c,.int .i64 l.m.x,.int .i64 l.m.y,.int .i64 l.m.d,.int .i64 l.m.e] 47))).below hb2;have oL:=(C5.box w1 47 l).below hb2
 have hz2:w1.heap.size<w2.heap.size:=by have:=hb2.size;simp at this;omega
 have hz3:w.heap.size+1<w2.heap.size:=by omega
 have hz4:w.heap.size<w2.heap.size:=by omega
 have k0:w2.cell? ⟨w.heap.size,0,none⟩=some (.int .i64 t.c):=oA2.1;have k1:w2.cell? ⟨w1.heap.size,0,none⟩=some (.int .i64 l.c):=oL.1
 have HB4:=aA (HB3.out.alloc HB3.out.size (.cells #[.int .i64 q.x,.int .i64 q.y,.int .i64 q.d,.int .i64 q.e] 45));have hS:L6 w.heap.size w1.heap.size w2.heap.size t.c l.c q (w2.alloc (.cells #[.int .i64 q.x,.int .i64 q.y,.int .i64 q.d,.int .i64 q.e] 45)):=by have h4:=M4.box w2 45 q.x q.y q.d q.e;exact⟨(CB _ _ _ hz4).trans k0,(CB _ _ _ hz2).trans k1,h4.1,h4.2.1,h4.2.2.1,h4.2.2.2⟩
 have s0:=(CB w2 (.cells #[.int .i64 q.x,.int .i64 q.y,.int .i64 q.d,.int .i64 q.e] 45) ⟨w.heap.size+1,0,none⟩ hz3).trans e0;have s1:=(CB w2 (.cells #[.int .i64 q.x,.int .i64 q.y,.int .i64 q.d,.int .i64 q.e] 45) ⟨w.heap.size+1,1,none⟩ hz3).trans e1
 have s2:=(CB w2 (.cells #[.int .i64 q.x,.int .i64 q.y,.int .i64 q.d,.int .i64 q.e] 45) ⟨w.heap.size+1,2,none⟩ hz3).trans e2;have s3:=(CB w2 (.cells #[.int .i64 q.x,.int .i64 q.y,.int .i64 q.d,.int .i64 q.e] 45) ⟨w.heap.size+1,3,none⟩ hz3).trans e3
 have s4:=(CB w2 (.cells #[.int .i64 q.x,.int .i64 q.y,.int .i64 q.d,.int .i64 q.e] 45) ⟨w.heap.size+1,4,none⟩ hz3).trans e4;have sz:=fun i=>((aC w2 (.cells #[.int .i64 q.x,.int .i64 q.y,.int .i64 q.d,.int .i64 q.e] 45)).frozen (p:=⟨w.heap.size+1,i,none⟩) hz3).trans (ez i)
 clear hb2 oA2 oL OA OB hq;go_wp2_with fail;clear e0 e1 e2 e3 e4 ez;generalize(w2.alloc (.cells #[.int .i64 q.x,.int .i64 q.y,.int .i64 q.d,.int .i64 q.e] 45))=W at *;have hSd:L6 w.heap.size w1.heap.size w2.heap.size t.c l.c q W.drew:=hS
 have hn1:w.heap.size≠w.heap.size+1:=by omega
 have hn2:w1.heap.size≠w.heap.size+1:=by omega
 have hn3:w2.heap.size≠w.heap.size+1:=by omega
 go_region_held3 (fun u=>u.cell? ⟨w.heap.size,0,none⟩=some (.int .i64 t.c)∧u.cell? ⟨w1.heap.size,0,none⟩=some (.int .i64 l.c)∧u.cell? ⟨w2.heap.size,0,none⟩=some (.int .i64 q.x)∧u.cell? ⟨w2.heap.size,1,none⟩=some (.int .i64 q.y)∧u.cell? ⟨w2.heap.size,2,none⟩=some (.int .i64 q.d)∧u.cell? ⟨w2.heap.size,3,none⟩=some (.int .i64 q.e)) (first|with_reducible exact hSd|with_reducible exact ND hS hn1 hn2 hn3) (first|(go_at_call 113;refine(c3 _).mono ?_;rintro r w7 ⟨rfl,hw7⟩;obtain rfl:=hw7.symm;clear hw7))
 go_wp2;refine cB (v:=.agg #[.int .i64 (t.c*y%101),.int .i64 q.x,.int .i64 q.y,.int .i64 q.d,.int .i64 q.e]) (by simp[results,Tryz.results110,go_sem, *]) rfl ⟨rfl,?_⟩;exact(bQ HB4.out (by omega) _ _ _ _ _).drew
theorem DM {l:T} {b:M}:eW ⟨1,b⟩ l=gH l b:=by
 unfold eW gH;have:=rR l.c
 congr 1;show 1*lT l.c%101=lT l.c
 omega
theorem EH (w:World) (o:Int) (a:Option Addr) (n ca:Nat) (f:Nat→T) (b:Option Addr) (m cb:Nat) (g:Nat→T) (ha:Rd w a n ca f) (hb:Rd w b m cb g) (ho':o<1∨(1≤o∧3<o)):Calls Tryz.prog 153 #[.int .i64 o,.slice a n ca,.slice b m cb] w fun r w'=>r= .returned (.tuple #[.agg #[.int .i64 0,.int .i64 0,.int .i64 0,.int .i64 0,.int .i64 0],.agg #[.int .i64 0,.int .i64 0,.int .i64 0,.int .i64 0,.int .i64 0],.bool false])∧Below w.heap.size w w':=by
 have HA:=aA ha;have HB:=aA hb
 have hla:(n:Int)≤140737488351232:=by have:=ha.2.1;omega
 have hlb:(m:Int)≤140737488351232:=by have:=hb.2.1;omega
 have HB0:=aA (aQ w (.cells #[.int .i64 0,.int .i64 0,.int .i64 0,.int .i64 0,.int .i64 0] 47) (.cells #[.int .i64 0,.int .i64 0,.int .i64 0,.int .i64 0,.int .i64 0] 47));have oA0:=(bL.box w 47 bG).below (aC (w.alloc (.cells #[.int .i64 0,.int .i64 0,.int .i64 0,.int .i64 0,.int .i64 0] 47)) (.cells #[.int .i64 0,.int .i64 0,.int .i64 0,.int .i64 0,.int .i64 0] 47))
 have oB0:=bL.box (w.alloc (.cells #[.int .i64 0,.int .i64 0,.int .i64 0,.int .i64 0,.int .i64 0] 47)) 47 bG;rw[World.size_alloc]at oB0;have OA:=aA oA0
 have OB:=aA oB0;clear ha hb oA0 oB0;go_enter Tryz.func153,Tryz.ntmps153;go_wp2_with (go_at_call 62;refine(dJ _ _ _ _ ho').mono ?_;rintro r w' ⟨rfl,hw'⟩;obtain rfl:=hw'.symm;clear hw');refine cB (v:=.tuple #[.agg #[.int .i64 0,.int .i64 0,.int .i64 0,.int .i64 0,.int .i64 0],.agg #[.int .i64 0,.int .i64 0,.int .i64 0,.int .i64 0,.int .i64 0],.bool false]) (by simp[results,Tryz.results153,go_sem, *]) rfl ⟨rfl,HB0.out⟩
theorem ED (w:World) (o:Int) (a:Option Addr) (n ca:Nat) (f:Nat→T) (b:Option Addr) (m cb:Nat) (g:Nat→T) (ha:Rd w a n ca f) (hb:Rd w b m cb g) (o1:1≤o) (o2:o≤3) (hp:aN n f=false):Calls Tryz.prog 153 #[.int .i64 o,.slice a n ca,.slice b m cb] w fun r w'=>r= .returned (.tuple #[.agg #[.int .i64 0,.int .i64 0,.int .i64 0,.int .i64 0,.int .i64 0],.agg #[.int .i64 0,.int .i64 0,.int .i64 0,.int .i64 0,.int .i64 0],.bool false])∧Below w.heap.size w w':=by
 have HA:=aA ha;have HB:=aA hb
 have hla:(n:Int)≤140737488351232:=by have:=ha.2.1;omega
 have hlb:(m:Int)≤140737488351232:=by have:=hb.2.1;omega
 have HB0:=aA (aQ w (.cells #[.int .i64 0,.int .i64 0,.int .i64 0,.int .i64 0,.int .i64 0] 47) (.cells #[.int .i64 0,.int .i64 0,.int .i64 0,.int .i64 0,.int .i64 0] 47));have oA0:=(bL.box w 47 bG).below (aC (w.alloc (.cells #[.int .i64 0,.int .i64 0,.int .i64 0,.int .i64 0,.int .i64 0] 47)) (.cells #[.int .i64 0,.int .i64 0,.int .i64 0,.int .i64 0,.int .i64 0] 47))
 have oB0:=bL.box (w.alloc (.cells #[.int .i64 0,.int .i64 0,.int .i64 0,.int .i64 0,.int .i64 0] 47)) 47 bG;rw[World.size_alloc]at oB0;have OA:=aA oA0
 have OB:=aA oB0;clear ha hb oA0 oB0;go_enter Tryz.func153,Tryz.ntmps153;go_wp2_with (go_at_call 62;refine(bX _ _ _ _ o1 o2).mono ?_;rintro r w' ⟨rfl,hw'⟩;obtain rfl:=hw'.symm;clear hw');refine(gX _ _ _ _ f (HA.out.below HB0.out)).mono ?_;rw[hp];rintro r w1 ⟨rfl,hb1⟩;have HB1:=aA (aB HB0.out hb1)
 have OA1:=aA (OA.out.below hb1);have OB1:=aA (OB.out.below hb1)
 clear hb1 OA OB;obtain⟨⟨e0,e1,e2,e3,e4⟩,ez⟩:=OA1.out;obtain⟨⟨g0,g1,g2,g3,g4⟩,gz⟩:=OB1.out;have hl2:w.heap.size+1<w1.heap.size:=cU w1 _ g0
 have hl1:w.heap.size<w1.heap.size:=by omega
 go_wp2;refine cB (v:=.tuple #[.agg #[.int .i64 0,.int .i64 0,.int .i64 0,.int .i64 0,.int .i64 0],.agg #[.int .i64 0,.int .i64 0,.int .i64 0,.int .i64 0,.int .i64 0],.bool false]) (by simp[results,Tryz.results153,go_sem, *]) rfl ⟨rfl,?_⟩;with_reducible exact bQ (bQ HB1.out (by omega) _ _ _ _ _) (by omega) _ _ _ _ _
theorem EE (w:World) (o:Int) (a:Option Addr) (n ca:Nat) (f:Nat→T) (b:Option Addr) (m cb:Nat) (g:Nat→T) (ha:Rd w a n ca f) (hb:Rd w b m cb g) (o1:1≤o) (o2:o≤3) (hp:aN n f=true) (hq:aN m g=false):Calls Tryz.prog 153 #[.int .i64 o,.slice a n ca,.slice b m cb] w fun r w'=>r= .returned (.tuple #[.agg #[.int .i64 0,.int .i64 0,.int .i64 0,.int .i64 0,.int .i64 0],.agg #[.int .i64 0,.int .i64 0,.int .i64 0,.int .i64 0,.int .i64 0],.bool false])∧Below w.heap.size w w':=by
 have HA:=aA ha;have HB:=aA hb
 have hla:(n:Int)≤140737488351232:=by have:=ha.2.1;omega
 have hlb:(m:Int)≤140737488351232:=by have:=hb.2.1;omega
 have HB0:=aA (aQ w (.cells #[.int .i64 0,.int .i64 0,.int .i64 0,.int .i64 0,.int .i64 0] 47) (.cells #[.int .i64 0,.int .i64 0,.int .i64 0,.int .i64 0,.int .i64 0] 47));have oA0:=(bL.box w 47 bG).below (aC (w.alloc (.cells #[.int .i64 0,.int .i64 0,.int .i64 0,.int .i64 0,.int .i64 0] 47)) (.cells #[.int .i64 0,.int .i64 0,.int .i64 0,.int .i64 0,.int .i64 0] 47))
 have oB0:=bL.box (w.alloc (.cells #[.int .i64 0,.int .i64 0,.int .i64 0,.int .i64 0,.int .i64 0] 47)) 47 bG;rw[World.size_alloc]at oB0;have OA:=aA oA0
 have OB:=aA oB0;clear ha hb oA0 oB0;go_enter Tryz.func153,Tryz.ntmps153;go_wp2_with (go_at_call 62;refine(bX _ _ _ _ o1 o2).mono ?_;rintro r w' ⟨rfl,hw'⟩;obtain rfl:=hw'.symm;clear hw');refine(gX _ _ _ _ f (HA.out.below HB0.out)).mono ?_;rw[hp];rintro r w1 ⟨rfl,hb1⟩;have HB1:=aA (aB HB0.out hb1)
 have OA1:=aA (OA.out.below hb1);have OB1:=aA (OB.out.below hb1)
 clear hb1 OA OB;go_wp2_with fail;refine(gX _ _ _ _ g (HB.out.below HB1.out)).mono ?_;rw[hq];rintro r w2 ⟨rfl,hb1⟩;have HB2:=aA (aB HB1.out hb1)
 have OA11:=aA (OA1.out.below hb1);have OB11:=aA (OB1.out.below hb1)
 clear hb1 OA1 OB1;obtain⟨⟨e0,e1,e2,e3,e4⟩,ez⟩:=OA11.out;obtain⟨⟨g0,g1,g2,g3,g4⟩,gz⟩:=OB11.out;have hl2:w.heap.size+1<w2.heap.size:=cU w2 _ g0
 have hl1:w.heap.size<w2.heap.size:=by omega
 go_wp2;refine cB (v:=.tuple #[.agg #[.int .i64 0,.int .i64 0,.int .i64 0,.int .i64 0,.int .i64 0],.agg #[.int .i64 0,.int .i64 0,.int .i64 0,.int .i64 0,.int .i64 0],.bool false]) (by simp[results,Tryz.results153,go_sem, *]) rfl ⟨rfl,?_⟩;with_reducible exact bQ (bQ HB2.out (by omega) _ _ _ _ _) (by omega) _ _ _ _ _
theorem EG (w:World) (o:Int) (a:Option Addr) (n ca:Nat) (f:Nat→T) (b:Option Addr) (m cb:Nat) (g:Nat→T) (ha:Rd w a n ca f) (hb:Rd w b m cb g) (o1:1≤o) (o2:o≤3) (hp:aN n f=true) (hq:aN m g=true) (h0:n=0):Calls Tryz.prog 153 #[.int .i64 o,.slice a n ca,.slice b m cb] w fun r w'=>r= .returned (.tuple #[.agg #[.int .i64 0,.int .i64 0,.int .i64 0,.int .i64 0,.int .i64 0],.agg #[.int .i64 0,.int .i64 0,.int .i64 0,.int .i64 0,.int .i64 0],.bool false])∧Below w.heap.size w w':=by
 have HA:=aA ha;have HB:=aA hb
 have hla:(n:Int)≤140737488351232:=by have:=ha.2.1;omega
 have hlb:(m:Int)≤140737488351232:=by have:=hb.2.1;omega
 have HB0:=aA (aQ w (.cells #[.int .i64 0,.int .i64 0,.int .i64 0,.int .i64 0,.int .i64 0] 47) (.cells #[.int .i64 0,.int .i64 0,.int .i64 0,.int .i64 0,.int .i64 0] 47));have oA0:=(bL.box w 47 bG).below (aC (w.alloc (.cells #[.int .i64 0,.int .i64 0,.int .i64 0,.int .i64 0,.int .i64 0] 47)) (.cells #[.int .i64 0,.int .i64 0,.int .i64 0,.int .i64 0,.int .i64 0] 47))
 have oB0:=bL.box (w.alloc (.cells #[.int .i64 0,.int .i64 0,.int .i64 0,.int .i64 0,.int .i64 0] 47)) 47 bG;rw[World.size_alloc]at oB0;have OA:=aA oA0
 have OB:=aA oB0;clear ha hb oA0 oB0;have hne:((n:Int)==0)=true:=by simp;omega
 clear h0;go_enter Tryz.func153,Tryz.ntmps153;go_wp2_with (go_at_call 62;refine(bX _ _ _ _ o1 o2).mono ?_;rintro r w' ⟨rfl,hw'⟩;obtain rfl:=hw'.symm;clear hw');refine(gX _ _ _ _ f (HA.out.below HB0.out)).mono ?_;rw[hp];rintro r w1 ⟨rfl,hb1⟩;have HB1:=aA (aB HB0.out hb1)
 have OA1:=aA (OA.out.below hb1);have OB1:=aA (OB.out.below hb1)
 clear hb1 OA OB;go_wp2_with fail;refine(gX _ _ _ _ g (HB.out.below HB1.out)).mono ?_;rw[hq];rintro r w2 ⟨rfl,hb1⟩;have HB2:=aA (aB HB1.out hb1)
 have OA11:=aA (OA1.out.below hb1);have OB11:=aA (OB1.out.below hb1)
 clear hb1 OA1 OB1;obtain⟨⟨e0,e1,e2,e3,e4⟩,ez⟩:=OA11.out;obtain⟨⟨g0,g1,g2,g3,g4⟩,gz⟩:=OB11.out;have hl2:w.heap.size+1<w2.heap.size:=cU w2 _ g0
 have hl1:w.heap.size<w2.heap.size:=by omega
 go_wp2;refine cB (v:=.tuple #[.agg #[.int .i64 0,.int .i64 0,.int .i64 0,.int .i64 0,.int .i64 0],.agg #[.int .i64 0,.int .i64 0,.int .i64 0,.int .i64 0,.int .i64 0],.bool false]) (by simp[results,Tryz.results153,go_sem, *]) rfl ⟨rfl,?_⟩;with_reducible exact bQ (bQ HB2.out (by omega) _ _ _ _ _) (by omega) _ _ _ _ _
theorem EF (w:World) (o:Int) (a:Option Addr) (n ca:Nat) (f:Nat→T) (b:Option Addr) (m cb:Nat) (g:Nat→T) (ha:Rd w a n ca f) (hb:Rd w b m cb g) (o1:1≤o) (o2:o≤3) (hp:aN n f=true) (hq:aN m g=true) (h0:n≠0) (h1:m=0):Calls Tryz.prog 153 #[.int .i64 o,.slice a n ca,.slice b m cb] w fun r w'=>r= .returned (.tuple #[.agg #[.int .i64 0,.int .i64 0,.int .i64 0,.int .i64 0,.int .i64 0],.agg #[.int .i64 0,.int .i64 0,.int .i64 0,.int .i64 0,.int .i64 0],.bool false])∧Below w.heap.size w w':=by
 have HA:=aA ha;have HB:=aA hb
 have hla:(n:Int)≤140737488351232:=by have:=ha.2.1;omega
 have hlb:(m:Int)≤140737488351232:=by have:=hb.2.1;omega
 have HB0:=aA (aQ w (.cells #[.int .i64 0,.int .i64 0,.int .i64 0,.int .i64 0,.int .i64 0] 47) (.cells #[.int .i64 0,.int .i64 0,.int .i64 0,.int .i64 0,.int .i64 0] 47));have oA0:=(bL.box w 47 bG).below (aC (w.alloc (.cells #[.int .i64 0,.int .i64 0,.int .i64 0,.int .i64 0,.int .i64 0] 47)) (.cells #[.int .i64 0,.int .i64 0,.int .i64 0,.int .i64 0,.int .i64 0] 47))
 have oB0:=bL.box (w.alloc (.cells #[.int .i64 0,.int .i64 0,.int .i64 0,.int .i64 0,.int .i64 0] 47)) 47 bG;rw[World.size_alloc]at oB0;have OA:=aA oA0
 have OB:=aA oB0;clear ha hb oA0 oB0;have hne:((n:Int)==0)=false:=by simp;omega
 have hme:((m:Int)==0)=true:=by simp;omega
 clear h0 h1;go_enter Tryz.func153,Tryz.ntmps153;go_wp2_with (go_at_call 62;refine(bX _ _ _ _ o1 o2).mono ?_;rintro r w' ⟨rfl,hw'⟩;obtain rfl:=hw'.symm;clear hw');refine(gX _ _ _ _ f (HA.out.below HB0.out)).mono ?_;rw[hp];rintro r w1 ⟨rfl,hb1⟩;have HB1:=aA (aB HB0.out hb1)
 have OA1:=aA (OA.out.below hb1);have OB1:=aA (OB.out.below hb1)
 clear hb1 OA OB;go_wp2_with fail;refine(gX _ _ _ _ g (HB.out.below HB1.out)).mono ?_;rw[hq];rintro r w2 ⟨rfl,hb1⟩;have HB2:=aA (aB HB1.out hb1)
 have OA11:=aA (OA1.out.below hb1);have OB11:=aA (OB1.out.below hb1)
 clear hb1 OA1 OB1;obtain⟨⟨e0,e1,e2,e3,e4⟩,ez⟩:=OA11.out;obtain⟨⟨g0,g1,g2,g3,g4⟩,gz⟩:=OB11.out;have hl2:w.heap.size+1<w2.heap.size:=cU w2 _ g0
 have hl1:w.heap.size<w2.heap.size:=by omega
 go_wp2;refine cB (v:=.tuple #[.agg #[.int .i64 0,.int .i64 0,.int .i64 0,.int .i64 0,.int .i64 0],.agg #[.int .i64 0,.int .i64 0,.int .i64 0,.int .i64 0,.int .i64 0],.bool false]) (by simp[results,Tryz.results153,go_sem, *]) rfl ⟨rfl,?_⟩;with_reducible exact bQ (bQ HB2.out (by omega) _ _ _ _ _) (by omega) _ _ _ _ _
theorem EI (w:World) (o:Int) (a:Option Addr) (n ca:Nat) (f:Nat→T) (b:Option Addr) (m cb:Nat) (g:Nat→T) (ha:Rd w a n ca f) (hb:Rd w b m cb g) (o1:1≤o) (o2:o≤3) (hp:aN n f=true) (hq:aN m g=true) (pn:0<n) (pm:0<m):Calls Tryz.prog 153 #[.int .i64 o,.slice a n ca,.slice b m cb] w fun r w'=>r= .returned (.tuple #[.agg #[.int .i64 (fC o n f m g).c,.int .i64 (fC o n f m g).m.x,.int .i64 (fC o n f m g).m.y,.int .i64 (fC o n f m g).m.d,.int .i64 (fC o n f m g).m.e],.agg #[.int .i64 (fD o n f m g).c,.int .i64 (fD o n f m g).m.x,.int .i64 (fD o n f m g).m.y,.int .i64 (fD o n f m g).m.d,.int .i64 (fD o n f m g).m.e],.bool (eZ o n f m g)])∧Below w.heap.size w w':=by
 have HA:=aA ha;have HB:=aA hb
 have hla:(n:Int)≤140737488351232:=by have:=ha.2.1;omega
 have hlb:(m:Int)≤140737488351232:=by have:=hb.2.1;omega
 have HB0:=aA (aQ w (.cells #[.int .i64 0,.int .i64 0,.int .i64 0,.int .i64 0,.int .i64 0] 47) (.cells #[.int .i64 0,.int .i64 0,.int .i64 0,.int .i64 0,.int .i64 0] 47));have oA0:=(bL.box w 47 bG).below (aC (w.alloc (.cells #[.int .i64 0,.int .i64 0,.int .i64 0,.int .i64 0,.int .i64 0] 47)) (.cells #[.int .i64 0,.int .i64 0,.int .i64 0,.int .i64 0,.int .i64 0] 47))
 have oB0:=bL.box (w.alloc (.cells #[.int .i64 0,.int .i64 0,.int .i64 0,.int .i64 0,.int .i64 0] 47)) 47 bG;rw[World.size_alloc]at oB0;have OA:=aA oA0
 have OB:=aA oB0;clear ha hb oA0 oB0;have hk1:bH o n f=true:=by unfold bH;rw[hp,decide_eq_true (show 1≤o∧o≤3 from⟨o1,o2⟩),decide_eq_true pn];rfl
 have hk2:bH o m g=true:=by unfold bH;rw[hq,decide_eq_true (show 1≤o∧o≤3 from⟨o1,o2⟩),decide_eq_true pm];rfl
 have hk:eZ o n f m g=true:=by unfold eZ;rw[hk1,hk2];rfl
 have eU:fC o n f m g=eW ⟨1,M.both (f (aX o f n)).m (g (aX o g m)).m⟩ (f (aX o f n)):=by rw[DM];unfold fC mA;rw[if_pos hk,eF hk1,eF hk2]
 have eV:fD o n f m g=eW ⟨1,M.both (f (aX o f n)).m (g (aX o g m)).m⟩ (g (aX o g m)):=by rw[DM];unfold fD mA;rw[if_pos hk,eF hk1,eF hk2]
 rw[eU,eV,hk];have hne:((n:Int)==0)=false:=by simp;omega
 have hme:((m:Int)==0)=false:=by simp;omega
 have HF:=aA (sJ hp);have HG:=aA (sJ hq)
 have c1:=fun(W:World) (h:Rd W a n ca f)=>sD W o a n ca f h pn HF.out;have c2:=fun(W:World) (h:Rd W b m cb g)=>sD W o b m cb g h pm HG.out
 have c3:=fun(W:World) (q:M) (h:Rd W a n ca f)=>AG W o ⟨1,q⟩ a n ca f h pn HF.out (show(0:Int)≤1 by decide) (show(1:Int)≤100 by decide);have c4:=fun(W:World) (q:M) (h:Rd W b m cb g)=>AG W o ⟨1,q⟩ b m cb g h pm HG.out (show(0:Int)≤1 by decide) (show(1:Int)≤100 by decide)
 clear eU eV hk hk1 hk2 pn pm;generalize f (aX o f n)=s at *;generalize g (aX o g m)=t at *;obtain⟨q,hqq⟩:∃q,M.both ⟨s.m.x,s.m.y,s.m.d,s.m.e⟩ ⟨t.m.x,t.m.y,t.m.d,t.m.e⟩=q:=⟨_,rfl⟩
 rw[show M.both s.m t.m=q from hqq];have d3:=fun W=>c3 W q
 have d4:=fun W=>c4 W q;clear c3 c4;generalize eW ⟨1,q⟩ s=U at *;generalize eW ⟨1,q⟩ t=V at *;dsimp only at d3 d4;have hfs:∀W:World,(Instr.field 47 (Value.agg #[.int .i64 s.c,.int .i64 s.m.x,.int .i64 s.m.y,.int .i64 s.m.d,.int .i64 s.m.e]) 1).run Tryz.prog W= .ok (Value.agg #[.int .i64 s.m.x,.int .i64 s.m.y,.int .i64 s.m.d,.int .i64 s.m.e]) W:=fun W=>by kernel_rfl
 have hft:∀W:World,(Instr.field 47 (Value.agg #[.int .i64 t.c,.int .i64 t.m.x,.int .i64 t.m.y,.int .i64 t.m.d,.int .i64 t.m.e]) 1).run Tryz.prog W= .ok (Value.agg #[.int .i64 t.m.x,.int .i64 t.m.y,.int .i64 t.m.d,.int .i64 t.m.e]) W:=fun W=>by kernel_rfl
 go_enter Tryz.func153,Tryz.ntmps153;go_wp2_with (go_at_call 62;refine(bX _ _ _ _ o1 o2).mono ?_;rintro r w' ⟨rfl,hw'⟩;obtain rfl:=hw'.symm;clear hw');refine(gX _ _ _ _ f (HA.out.below HB0.out)).mono ?_;rw[hp];rintro r w1 ⟨rfl,hb1⟩;have HB1:=aA (aB HB0.out hb1)
 have OA1:=aA (OA.out.below hb1);have OB1:=aA (OB.out.below hb1)
 clear hb1 OA OB;go_wp2_with fail;refine(gX _ _ _ _ g (HB.out.below HB1.out)).mono ?_;rw[hq];rintro r w2 ⟨rfl,hb1⟩;have HB2:=aA (aB HB1.out hb1)
 have OA11:=aA (OA1.out.below hb1);have OB11:=aA (OB1.out.below hb1)
 clear hb1 OA1 OB1;go_wp2_with fail;refine(c1 _ (HA.out.below HB2.out)).mono ?_;rintro r w3 ⟨rfl,hb3⟩;have HB3:=aA (aB HB2.out hb3)
 have OA3:=aA (OA11.out.below hb3);have OB3:=aA (OB11.out.below hb3)
 clear hb3;go_wp2_with fail;refine(c2 _ (HB.out.below HB3.out)).mono ?_;rintro r w4 ⟨rfl,hb4⟩;have HB4:=aA (aB HB3.out hb4)
 have OA4:=aA (OA3.out.below hb4);have OB4:=aA (OB3.out.below hb4)
 clear hb4;go_wp2_with fail;refine(DG hqq _).mono ?_;rintro r w5 ⟨rfl,hb5⟩;have HB5:=aA (aB HB4.out hb5)
 have OA5:=aA (OA4.out.below hb5);have OB5:=aA (OB4.out.below hb5)
 have SZ5:Hid (w.heap.size+1<w5.heap.size):=cU w5 _ OB5.out.1.1;clear hb5 hqq OA11 OB11 OA3 OB3 OA4 OB4 HB0 HB1 HB2 HB3 HB4 c1 c2 hp hq;have tC:=C5.box w5 47 ⟨1,q⟩
 have OA6:=aA (OA5.out.below (aC w5 (.cells #[.int .i64 1,.int .i64 q.x,.int .i64 q.y,.int .i64 q.d,.int .i64 q.e] 47)));have OB6:=aA (OB5.out.below (aC w5 (.cells #[.int .i64 1,.int .i64 q.x,.int .i64 q.y,.int .i64 q.d,.int .i64 q.e] 47)))
 have HB6:=aA (HB5.out.alloc HB5.out.size (.cells #[.int .i64 1,.int .i64 q.x,.int .i64 q.y,.int .i64 q.d,.int .i64 q.e] 47));go_wp2_with fail;clear OA5 OB5 HB5;generalize(w5.alloc (.cells #[.int .i64 1,.int .i64 q.x,.int .i64 q.y,.int .i64 q.d,.int .i64 q.e] 47))=W at *;have hbx:w5.heap.size≠w.heap.size∧w5.heap.size≠w.heap.size+1:=by have:=SZ5.out;omega
 obtain⟨hn1,hn2⟩:=hbx;have HA6:=aA (HA.out.below HB6.out.drew)
 have HBb6:=aA (HB.out.below HB6.out.drew);have tCd:Q5 w5.heap.size q W.drew:=tC
 have OAd:Hid (bL W.drew w.heap.size bG):=OA6.out;have OBd:Hid (bL W.drew (w.heap.size+1) bG):=OB6.out
 have HBd:=aA HB6.out.drew;clear OA6 OB6
 go_region_held3 (fun u=>u.cell? ⟨w5.heap.size,0,none⟩=some (.int .i64 1)∧u.cell? ⟨w5.heap.size,1,none⟩=some (.int .i64 q.x)∧u.cell? ⟨w5.heap.size,2,none⟩=some (.int .i64 q.y)∧u.cell? ⟨w5.heap.size,3,none⟩=some (.int .i64 q.d)∧u.cell? ⟨w5.heap.size,4,none⟩=some (.int .i64 q.e)) (first|with_reducible exact tCd|with_reducible exact Q5.below tCd b1|with_reducible exact Q5.below (Q5.below tCd b1) b2|with_reducible exact Q5.far (by assumption) hn1|with_reducible exact Q5.far (by assumption) hn2) (first|(go_at_call 110;(with_reducible refine(d3 _ HA6.out).mono ?_);rintro r w6 ⟨rfl,b1⟩)|(go_at_call 110;(with_reducible refine(d4 _ (HBb6.out.below b1)).mono ?_);rintro r w7 ⟨rfl,b2⟩;obtain⟨⟨e0,e1,e2,e3,e4⟩,ez⟩:=(OAd.out.below b1).below b2;obtain⟨⟨g0,g1,g2,g3,g4⟩,gz⟩:=(OBd.out.below b1).below b2))
 have HB7:=aA (aB (aB HBd.out b1) b2);go_wp2;refine cB (v:=.tuple #[.agg #[.int .i64 U.c,.int .i64 U.m.x,.int .i64 U.m.y,.int .i64 U.m.d,.int .i64 U.m.e],.agg #[.int .i64 V.c,.int .i64 V.m.x,.int .i64 V.m.y,.int .i64 V.m.d,.int .i64 V.m.e],.bool true]) (by simp[results,Tryz.results153,go_sem, *]) rfl ⟨rfl,?_⟩;with_reducible exact bQ (bQ HB7.out (by omega) _ _ _ _ _) (by omega) _ _ _ _ _
theorem zH (w:World) (o:Int) (a:Option Addr) (n ca:Nat) (f:Nat→T) (b:Option Addr) (m cb:Nat) (g:Nat→T) (ha:Rd w a n ca f) (hb:Rd w b m cb g):Calls Tryz.prog 153 #[.int .i64 o,.slice a n ca,.slice b m cb] w fun r w'=>r= .returned (.tuple #[.agg #[.int .i64 (fC o n f m g).c,.int .i64 (fC o n f m g).m.x,.int .i64 (fC o n f m g).m.y,.int .i64 (fC o n f m g).m.d,.int .i64 (fC o n f m g).m.e],.agg #[.int .i64 (fD o n f m g).c,.int .i64 (fD o n f m g).m.x,.int .i64 (fD o n f m g).m.y,.int .i64 (fD o n f m g).m.d,.int .i64 (fD o n f m g).m.e],.bool (eZ o n f m g)])∧Below w.heap.size w w':=by
 have key:eZ o n f m g=false→(Calls Tryz.prog 153 #[.int .i64 o,.slice a n ca,.slice b m cb] w fun r w'=>r= .returned (.tuple #[.agg #[.int .i64 0,.int .i64 0,.int .i64 0,.int .i64 0,.int .i64 0],.agg #[.int .i64 0,.int .i64 0,.int .i64 0,.int .i64 0,.int .i64 0],.bool false])∧Below w.heap.size w w')→Calls Tryz.prog 153 #[.int .i64 o,.slice a n ca,.slice b m cb] w fun r w'=>r= .returned (.tuple #[.agg #[.int .i64 (fC o n f m g).c,.int .i64 (fC o n f m g).m.x,.int .i64 (fC o n f m g).m.y,.int .i64 (fC o n f m g).m.d,.int .i64 (fC o n f m g).m.e],.agg #[.int .i64 (fD o n f m g).c,.int .i64 (fD o n f m g).m.x,.int .i64 (fD o n f m g).m.y,.int .i64 (fD o n f m g).m.d,.int .i64 (fD o n f m g).m.e],.bool (eZ o n f m g)])∧Below w.heap.size w w':=fun hk h=>by
  have eU:fC o n f m g=bG:=if_neg (by rw[hk];decide);have eV:fD o n f m g=bG:=if_neg (by rw[hk];decide)
  rw[eU,eV,hk];exact h
 by_cases ho:1≤o∧o≤3
 ·obtain⟨o1,o2⟩:=ho;cases hp:aN n f
  ·exact key (by unfold eZ bH;simp[hp]) (ED w o a n ca f b m cb g ha hb o1 o2 hp)
  ·cases hq:aN m g
   ·exact key (by unfold eZ bH;simp[hq]) (EE w o a n ca f b m cb g ha hb o1 o2 hp hq)
   ·by_cases hn0:n=0
    ·exact key (by unfold eZ bH;simp[hn0]) (EG w o a n ca f b m cb g ha hb o1 o2 hp hq hn0)
    ·by_cases hm0:m=0
     ·exact key (by unfold eZ bH;simp[hm0]) (EF w o a n ca f b m cb g ha hb o1 o2 hp hq hn0 hm0)
     ·exact EI w o a n ca f b m cb g ha hb o1 o2 hp hq (by omega) (by omega)
 ·exact key (by unfold eZ bH;simp[ho]) (EH w o a n ca f b m cb g ha hb (by omega))
theorem oT {o:Int} {f:Nat→T}:∀u i k n,k<n→i+u≤n→aV o f u i k<n
 |0,_,_,_,h,_=>h
 |u+1,i,k,n,h,h2=>by
  unfold aV;split
  ·exact oT u (i+1) i n (by omega) (by omega)
  ·exact oT u (i+1) k n h (by omega)
theorem tK {o:Int} {f:Nat→T} {n:Nat} (h:0<n):aX o f n<n:=oT (n-1) 1 0 n h (by omega)
theorem kD {o:Int} {n:Nat} {f:Nat→T} (h:bH o n f=true):(1≤o∧o≤3)∧aN n f=true∧0<n:=by unfold bH at h;simp only[Bool.and_eq_true,decide_eq_true_eq]at h;exact⟨h.1.1,h.1.2,h.2⟩
theorem pI {o:Int} {n:Nat} {f:Nat→T} (h:bH o n f=true):(bO o n f).m.ok=true∧1≤(bO o n f).c∧(bO o n f).c≤100:=by obtain⟨ho,hp,hn⟩:=kD h;rw[eF h];exact(dE hp).2 _ (tK hn)
theorem CU {c:Int} (h1:1≤c) (h2:c≤100):1≤lT c:=by
 have hb:=rR c;rcases Int.lt_or_le 0 (lT c)with h|h
 ·omega
 ·have h0:lT c=0:=by omega
  have:=wB (b:=c) ⟨by omega,h2⟩ (by omega);rw[h0,iD (by omega) (by omega) (by omega) h2]at this;omega
theorem tU {l:T} {b:M} (h:l.m.ok=true∧1≤l.c∧l.c≤100) (hd:l.m.dvd b=true):(gH l b).m.ok=true∧1≤(gH l b).c∧(gH l b).c≤100:=by
 refine⟨?_,CU h.2.1 h.2.2,(rR _).2⟩;show((M.over b l.m).1).ok=true
 rw[M.over,if_pos hd];obtain⟨h1,h2,h3⟩:=kF hd;have k1:=M.ok_iff.1 h1
 have k2:=M.ok_iff.1 h2;refine M.ok_iff.2 ?_;simp only[M.diff];omega
theorem sM {o:Int} {n:Nat} {f:Nat→T} {m:Nat} {g:Nat→T} (h:eZ o n f m g=true):((fC o n f m g).m.ok=true∧1≤(fC o n f m g).c∧(fC o n f m g).c≤100)∧((fD o n f m g).m.ok=true∧1≤(fD o n f m g).c∧(fD o n f m g).c≤100):=by
 have h':=h;unfold eZ at h';rw[Bool.and_eq_true]at h';have ga:=pI h'.1
 have gb:=pI h'.2;obtain⟨d1,d2,_⟩:=rC ga.1 gb.1 (rfl:M.both (bO o n f).m (bO o m g).m=mA o n f m g);unfold fC fD;rw[if_pos h,if_pos h];exact⟨tU ga d1,tU gb d2⟩
theorem xM {l b:M} (hd:l.dvd b=true):M.mul (M.over b l).1 l=(b,true):=by
 rw[M.over,if_pos hd];obtain⟨h1,h2,h3⟩:=kF hd;have k1:=M.ok_iff.1 h1
 have k2:=M.ok_iff.1 h2;have hok:(b.diff l).ok=true:=by refine M.ok_iff.2 ?_;simp only[M.diff];omega
 have hs:(b.diff l).sum l=b:=by cases b;cases l;simp only[M.diff,M.sum,M.mk.injEq];omega
 unfold M.mul;rw[hs,if_pos ⟨hok,h1,h2⟩]
theorem AQ (a b:Int):mx a b-a=0∨mx a b-b=0:=by unfold mx;split<;>omega
theorem JJ {o:Int} {n:Nat} {f:Nat→T} {m:Nat} {g:Nat→T} (h:eZ o n f m g=true):M.mul (fC o n f m g).m (bO o n f).m=(mA o n f m g,true)∧M.mul (fD o n f m g).m (bO o m g).m=(mA o n f m g,true)∧oQ (fC o n f m g).c (bO o n f).c=1∧oQ (fD o n f m g).c (bO o m g).c=1∧((fC o n f m g).m.x=0∨(fD o n f m g).m.x=0)∧((fC o n f m g).m.y=0∨(fD o n f m g).m.y=0)∧((fC o n f m g).m.d=0∨(fD o n f m g).m.d=0)∧((fC o n f m g).m.e=0∨(fD o n f m g).m.e=0):=by
 have h':=h;unfold eZ at h';rw[Bool.and_eq_true]at h';have ga:=pI h'.1
 have gb:=pI h'.2;obtain⟨d1,d2,_⟩:=rC ga.1 gb.1 (rfl:M.both (bO o n f).m (bO o m g).m=mA o n f m g);have d1:(bO o n f).m.dvd (mA o n f m g)=true:=d1
 have d2:(bO o m g).m.dvd (mA o n f m g)=true:=d2;unfold fC fD;rw[if_pos h,if_pos h];refine⟨xM d1,xM d2,wB ⟨by omega,ga.2.2⟩ (by omega),wB ⟨by omega,gb.2.2⟩ (by omega),?_⟩;have e1:(gH (bO o n f) (mA o n f m g)).m=(mA o n f m g).diff (bO o n f).m:=by show(M.over _ _).1=_;rw[M.over,if_pos d1]
 have e2:(gH (bO o m g) (mA o n f m g)).m=(mA o n f m g).diff (bO o m g).m:=by show(M.over _ _).1=_;rw[M.over,if_pos d2]
 rw[e1,e2];unfold mA;rw[M.both,if_pos ⟨ga.1,gb.1⟩];exact⟨AQ _ _,AQ _ _,AQ _ _,AQ _ _⟩
theorem UY {lo lo':Nat} {w:World} {a:Option Addr} {cap:Nat} {L:List T} (h:lI lo w a cap L) (hl:lo'≤lo):lI lo' w a cap L:=⟨h.1,h.2.1,h.2.2.imp id (fun⟨g,off,he,hlo⟩=>⟨g,off,he,jW hl hlo⟩)⟩
theorem jR {t:T} (h:t.m.ok=true∧1≤t.c∧t.c≤100):cT [t]=true:=
 gJ (by simp) ⟨List.pairwise_singleton _ _,fun s hs=>by simp at hs;subst hs;exact h⟩
def kQ (u v:T) (f:Nat→T) (n:Nat) (g:Nat→T) (m:Nat):List T×Bool:=
 if(bJ (lf [u]) 1 f n).2=true∧(bJ (lf [v]) 1 g m).2=true then iS (lf (bJ (lf [u]) 1 f n).1) (bJ (lf [u]) 1 f n).1.length (lf (bJ (lf [v]) 1 g m).1) (bJ (lf [v]) 1 g m).1.length else([],false)
theorem KS (u v:T) (f:Nat→T) (n:Nat) (g:Nat→T) (m:Nat):(kQ u v f n g m).1.length≤400:=by
 unfold kQ;split
 ·exact wT _ _ _ _
 ·simp
def dC (o:Int) (f:Nat→T) (n:Nat) (g:Nat→T) (m:Nat):List T×Bool:=
 if eZ o n f m g=true then kQ (fC o n f m g) (fD o n f m g) f n g m else([],false)
theorem EC (o:Int) (f:Nat→T) (n:Nat) (g:Nat→T) (m:Nat):(dC o f n g m).1.length≤400:=by
 unfold dC;split
 ·exact KS _ _ _ _ _ _
 ·simp
def mL (L:List T) (t:T) (g:Nat→T) (m:Nat):List T×Bool:=
 match bY (lf [t]) g m 1 with
 |none=>([],false)
 |some Y=>if(cQ L Y).length≤400 then(cQ L Y,true)else([],false)
theorem LN (L:List T) (t:T) (g:Nat→T) (m:Nat):(mL L t g m).1.length≤400:=by
 unfold mL;split
 ·simp
 ·split
  ·assumption
  ·simp
theorem PM {t:T} (ht:t.m.ok=true∧1≤t.c∧t.c≤100) {g:Nat→T} {m:Nat} (hg:mO g m):bY (lf [⟨101-t.c,t.m⟩]) g m 1=(bY (lf [t]) g m 1).map (kE 100):=by
 refine AO (by omega) (by omega) (f:=lf [t]) (la:=1) (fun i hi=>?_) hg (fun i hi=>?_) 1 (Nat.le_refl _)
 ·obtain rfl:i=0:=by omega
  exact⟨ht.1,by show 0≤t.c;omega,ht.2.2⟩
 ·obtain rfl:i=0:=by omega
  show(⟨101-t.c,t.m⟩:T)=⟨100*t.c%101,t.m⟩
  congr 1;omega
theorem LO {u v:T} {f:Nat→T} {n:Nat} {g:Nat→T} {m:Nat} (hu:u.m.ok=true∧1≤u.c∧u.c≤100) (hv:v.m.ok=true∧1≤v.c∧v.c≤100) (hf:aN n f=true) (hg:aN m g=true):kQ u v f n g m=match bY (lf [u]) f n 1 with|none=>([],false)|some X=>mL X v g m:=by
 have o1:aN 1 (lf [u])=true:=jR hu;have o2:aN 1 (lf [v])=true:=jR hv
 have e1:bJ (lf [u]) 1 f n=iR (bY (lf [u]) f n 1):=if_pos ⟨o1,hf⟩;have e2:bJ (lf [v]) 1 g m=iR (bY (lf [v]) g m 1):=if_pos ⟨o2,hg⟩
 unfold kQ;rw[e1,e2];cases hX:bY (lf [u]) f n 1 with
 |none=>exact if_neg (by simp[iR])
 |some X=>
  unfold mL;cases hY:bY (lf [v]) g m 1 with
  |none=>exact if_neg (by simp[iR])
  |some Y=>
   have kX:cT X=true:=gJ (fT _ X hX) (dA (bV o1).2 (bV hf).2 _ X (Nat.le_refl _) hX);have kY:cT Y=true:=gJ (fT _ Y hY) (dA (bV o2).2 (bV hg).2 _ Y (Nat.le_refl _) hY)
   rw[if_pos (by simp[iR])];show xK X Y=if(cQ X Y).length≤400 then(cQ X Y,true)else([],false)
   by_cases hl:(cQ X Y).length≤400
   ·rw[if_pos hl,JN kX kY hl]
   ·rw[if_neg hl];rcases tZ X Y with h|⟨_,_,h,_⟩
    ·exact h
    ·exact absurd h hl
theorem IJ (w:World) (pa:Option Addr) (pc:Nat) (L:List T) (t:T) (b:Option Addr) (m cb:Nat) (g:Nat→T) (hp:RL w pa pc L) (hl:L.length≤400) (hL:aK L) (ht:t.m.ok=true∧1≤t.c∧t.c≤100) (hb:Rd w b m cb g) (hg:aN m g=true):Calls Tryz.prog 111 #[.slice pa L.length pc,.agg #[.int .i64 t.c,.int .i64 t.m.x,.int .i64 t.m.y,.int .i64 t.m.d,.int .i64 t.m.e],.slice b m cb] w fun r w'=>∃v,r= .returned (.tuple #[v,.bool (mL L t g m).2])∧Below w.heap.size w w'∧w'.ownsRow w.heap.size 47 5 v (mL L t g m).1.length (aF (mL L t g m).1):=by
 obtain⟨l2,gg⟩:=bV hg;have HP:=aA hp
 have HG:=aA hb;have HL:=aA hL
 have hmn:=PM ht gg;obtain⟨t0,t1,t2⟩:=ht;have gs:mO (lf [(⟨101-t.c,t.m⟩:T)]) 1:=fun i hi=>by
  obtain rfl:i=0:=by omega
  exact⟨t0,by show 0≤101-t.c;omega,by show 101-t.c≤100;omega⟩
 have gt:mO (lf [t]) 1:=fun i hi=>by
  obtain rfl:i=0:=by omega
  exact⟨t0,by show 0≤t.c;omega,t2⟩
 have hcall:=fun(W:World) (h:RL W (some ⟨w.heap.size+1,0,none⟩) 1 [(⟨101-t.c,t.m⟩:T)]) (h':Rd W b m cb g)=>IU W (some ⟨w.heap.size+1,0,none⟩) b 1 1 m cb (lf [(⟨101-t.c,t.m⟩:T)]) g h h' (by omega) l2 gs gg;rw[hmn]at hcall;have HGT:=aA gt
 have HGG:=aA gg;clear hp hb hL gs gt gg hmn;unfold mL;have hrl:=gK (w.alloc (.cells #[.int .i64 t.c,.int .i64 t.m.x,.int .i64 t.m.y,.int .i64 t.m.d,.int .i64 t.m.e] 47)) (⟨101-t.c,t.m⟩:T)
 rw[World.size_alloc]at hrl;have HRL:=aA hrl
 have HBL:=aA (aQ w (.cells #[.int .i64 t.c,.int .i64 t.m.x,.int .i64 t.m.y,.int .i64 t.m.d,.int .i64 t.m.e] 47) (.cells #[.int .i64 (101-t.c),.int .i64 t.m.x,.int .i64 t.m.y,.int .i64 t.m.d,.int .i64 t.m.e] 47));clear hrl;cases hY:bY (lf [t]) g m 1 with
 |none=>
  rw[hY]at hcall;simp only[Option.map_none,iR]at hcall;go_enter Tryz.func111,Tryz.ntmps111;go_wp2_with fail;refine(hcall _ HRL.out (HG.out.below HBL.out)).mono ?_;rintro r w1 ⟨v1,rfl,hb1,ho1⟩;have HB1:=aA (aB HBL.out hb1)
  clear hb1 ho1 hcall;go_wp2;refine cB (results_tmp2 rfl _ _ _) rfl ?_;exact⟨_,rfl,HB1.out.alloc HB1.out.size _,cD w1 w.heap.size HB1.out.size⟩
 |some Y=>
  have fY:=dA HGT.out HGG.out 1 Y (Nat.le_refl _) hY;have lY:=fT 1 Y hY
  have fS:=gG (c:=100) (by omega) (by omega) fY;have lS:=gA 100 Y
  have hsl:=xJ L Y;rw[hY]at hcall;simp only[Option.map_some,iR]at hcall;obtain⟨Z,hZ⟩:∃Z,kE 100 Y=Z:=⟨_,rfl⟩
  rw[hZ]at hcall fS lS;have hadd:cQ L Y=cF L Z:=by rw[←hZ];rfl
  dsimp only;rw[hadd]at hsl⊢;have lZ:Z.length≤400:=by omega
  have c1:Hid (∀i,i<L.length→0≤(lf L i).c∧(lf L i).c≤100):=fun i hi=>by have:=(uK HL.out).2 i hi;omega
  have c2:Hid (∀i,i<Z.length→0≤(lf Z i).c∧(lf Z i).c≤100):=fun i hi=>by have:=(uK fS).2 i hi;omega
  have HAD:Hid (eI (lf L) L.length (lf Z) Z.length 0 0=cF L Z):=rfl;obtain⟨R,hR⟩:∃R,cF L Z=R:=⟨_,rfl⟩
  rw[hR]at hsl HAD⊢;have hRl:R.length≤1000:=by omega
  clear hZ hadd hR fS fY lS hsl;by_cases hle:R.length≤400
  ·have hg4:¬(400:Int)<(R.length:Int):=by omega
   rw[if_pos hle];go_enter Tryz.func111,Tryz.ntmps111;go_wp2_with fail;refine(hcall _ HRL.out (HG.out.below HBL.out)).mono ?_;rintro r w1 ⟨v1,rfl,hb1,ho1⟩;obtain⟨a1,k1,rfl,hout⟩:=aH ho1 (by omega);have HB1:=aA (aB HBL.out hb1)
   have HZ1:=aA hout.1;clear hb1 ho1 hout hcall;go_wp2_with fail;refine(oS _ _ _ _ _ _ _ (lf L) (lf Z) (HP.out.below HB1.out) HZ1.out (by omega) c1.out c2.out).mono ?_;rw[HAD.out];rintro r w2 ⟨v2,rfl,hb2,ho2⟩;have HB2:=aA (aB HB1.out hb2)
   have HO2:=aA (gE ho2 HB1.out.size);obtain⟨a2,k2,rfl,hout⟩:=aH ho2 (by omega);clear hb2 ho2 hout;go_wp2;refine cB (results_tmp2 rfl _ _ _) rfl ?_;exact⟨_,rfl,HB2.out,HO2.out⟩
  ·have hg4:(400:Int)<(R.length:Int):=by omega
   rw[if_neg hle];go_enter Tryz.func111,Tryz.ntmps111;go_wp2_with fail;refine(hcall _ HRL.out (HG.out.below HBL.out)).mono ?_;rintro r w1 ⟨v1,rfl,hb1,ho1⟩;obtain⟨a1,k1,rfl,hout⟩:=aH ho1 (by omega);have HB1:=aA (aB HBL.out hb1)
   have HZ1:=aA hout.1;clear hb1 ho1 hout hcall;go_wp2_with fail;refine(oS _ _ _ _ _ _ _ (lf L) (lf Z) (HP.out.below HB1.out) HZ1.out (by omega) c1.out c2.out).mono ?_;rw[HAD.out];rintro r w2 ⟨v2,rfl,hb2,ho2⟩;have HB2:=aA (aB HB1.out hb2)
   have HO2:=aA (gE ho2 HB1.out.size);obtain⟨a2,k2,rfl,hout⟩:=aH ho2 (by omega);clear hb2 ho2 hout;go_wp2;refine cB (results_tmp2 rfl _ _ _) rfl ?_;exact⟨_,rfl,HB2.out.alloc HB2.out.size _,cD w2 w.heap.size HB2.out.size⟩
end Go.Proofs.YtncffcaabnjioaaGreat
