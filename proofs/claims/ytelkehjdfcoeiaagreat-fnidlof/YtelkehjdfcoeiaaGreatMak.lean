/-
  The two terms of a pair of operators: the model.
-/
import Derived.Test.YtelkehjdfcoeiaaGreatMaj
set_option maxHeartbeats 4000000
set_option maxRecDepth 100000
namespace Go.Proofs.YtelkehjdfcoeiaaGreat
open Go.RowKit Go.Deep Go.Joins
set_option linter.unusedVariables false
abbrev L6 (A B C:Nat) (x y:Int) (m:M) (u:World):Prop:=u.cell? ⟨A,0,none⟩=some (.int .i64 x)∧u.cell? ⟨B,0,none⟩=some (.int .i64 y)∧u.cell? ⟨C,0,none⟩=some (.int .i64 m.x)∧u.cell? ⟨C,1,none⟩=some (.int .i64 m.y)∧u.cell? ⟨C,2,none⟩=some (.int .i64 m.d)∧u.cell? ⟨C,3,none⟩=some (.int .i64 m.e)
theorem XC {A B C D:Nat} {x y:Int} {m:M} {u:World} {v0 v1 v2 v3 v4:Value} (h:L6 A B C x y m u) (h1:A≠D) (h2:B≠D) (h3:C≠D):L6 A B C x y m (((((u.setCell ⟨D,0,none⟩ v0).setCell ⟨D,1,none⟩ v1).setCell ⟨D,2,none⟩ v2).setCell ⟨D,3,none⟩ v3).setCell ⟨D,4,none⟩ v4).drew:=
 have key:∀v:World,L6 A B C x y m v→L6 A B C x y m v.drew:=fun v h=>h
 key _ ⟨(sU h1).trans h.1,(sU h2).trans h.2.1,(sU h3).trans h.2.2.1,(sU h3).trans h.2.2.2.1,(sU h3).trans h.2.2.2.2.1,(sU h3).trans h.2.2.2.2.2⟩
abbrev Q5 (B:Nat) (q:M) (u:World):Prop:=u.cell? ⟨B,0,none⟩=some (.int .i64 1)∧u.cell? ⟨B,1,none⟩=some (.int .i64 q.x)∧u.cell? ⟨B,2,none⟩=some (.int .i64 q.y)∧u.cell? ⟨B,3,none⟩=some (.int .i64 q.d)∧u.cell? ⟨B,4,none⟩=some (.int .i64 q.e)
theorem Q5.below {B:Nat} {q:M} {u u':World} (h:Q5 B q u) (hb:Below u.heap.size u u'):Q5 B q u':=
 have l:=dD u ⟨B,0,none⟩ h.1
 ⟨(hb.cell (p:=⟨B,0,none⟩) l).trans h.1,(hb.cell (p:=⟨B,1,none⟩) l).trans h.2.1,(hb.cell (p:=⟨B,2,none⟩) l).trans h.2.2.1,(hb.cell (p:=⟨B,3,none⟩) l).trans h.2.2.2.1,(hb.cell (p:=⟨B,4,none⟩) l).trans h.2.2.2.2⟩
theorem Q5.far {w:World} {B b:Nat} {q:M} {v0 v1 v2 v3 v4:Value} (m:Q5 b q w) (h:b≠B):Q5 b q (((((w.setCell ⟨B,0,none⟩ v0).setCell ⟨B,1,none⟩ v1).setCell ⟨B,2,none⟩ v2).setCell ⟨B,3,none⟩ v3).setCell ⟨B,4,none⟩ v4):=
 ⟨(sU h).trans m.1,(sU h).trans m.2.1,(sU h).trans m.2.2.1,(sU h).trans m.2.2.2.1,(sU h).trans m.2.2.2.2⟩
def gH (t l:T):T:=⟨t.c*kE l.c%101,(M.over t.m l.m).1⟩
theorem GG (w:World) (o:Int) (t:T) (b:Option Addr) (m cb:Nat) (g:Nat→T) (hb:Rd w b m cb g) (hm:0<m) (hg:∀i,i<m→(g i).m.ok=true) (t1:0≤t.c) (t2:t.c≤100):Calls Tryz.prog 114 #[.int .i64 o,.agg #[.int .i64 t.c,.int .i64 t.m.x,.int .i64 t.m.y,.int .i64 t.m.d,.int .i64 t.m.e],.slice b m cb] w fun r w'=>r= .returned (.agg #[.int .i64 (gH t (g (bC o g m))).c,.int .i64 (gH t (g (bC o g m))).m.x,.int .i64 (gH t (g (bC o g m))).m.y,.int .i64 (gH t (g (bC o g m))).m.d,.int .i64 (gH t (g (bC o g m))).m.e])∧Below w.heap.size w w':=by
 have hmb:(m:Int)≤140737488351232:=by have:=hb.2.1;omega
 have HG:=aA hb;have HM:=aA hg
 have HB0:=aA (aS w (.cells #[.int .i64 t.c,.int .i64 t.m.x,.int .i64 t.m.y,.int .i64 t.m.d,.int .i64 t.m.e] 86) (.cells #[.int .i64 0,.int .i64 0,.int .i64 0,.int .i64 0,.int .i64 0] 86));have c1:=fun(W:World) (h:Rd W b m cb g)=>sE W o b m cb g h hm HM.out
 clear hb hg;generalize g (bC o g m)=l at *;obtain⟨q,bv,hq⟩:∃q bv,M.over ⟨t.m.x,t.m.y,t.m.d,t.m.e⟩ ⟨l.m.x,l.m.y,l.m.d,l.m.e⟩=(q,bv):=⟨_,_,rfl⟩
 have e1:gH t l=⟨t.c*kE l.c%101,q⟩:=by unfold gH;rw[show M.over t.m l.m=(q,bv)from hq]
 rw[e1];clear e1;obtain⟨f1,f2⟩:=nZ l.c;obtain⟨y,hy⟩:∃y,kE l.c=y:=⟨_,rfl⟩
 have c3:=fun W=>Jk l.c W;rw[hy]at f1 f2 c3⊢;clear hy;have p1:0≤t.c*y:=Int.mul_nonneg t1 f1
 have p2:t.c*y≤10000:=by have h1:t.c*y≤100*y:=Int.mul_le_mul_of_nonneg_right t2 f1;omega
 have p3:IntKind.i64.wrap (t.c*y)=t.c*y:=by rw[IntKind.wrap_i64];omega
 have p4:(t.c*y).tmod 101=t.c*y%101:=Int.tmod_eq_emod_of_nonneg p1;go_enter Tryz.func114,Tryz.ntmps114;go_wp2_with fail;refine(c1 _ (HG.out.below HB0.out)).mono ?_;rintro r w1 ⟨rfl,hb1⟩;have HB1:=aA (aB HB0.out hb1)
 have oA:=((C5.box w 86 t).below (aC (w.alloc (.cells #[.int .i64 t.c,.int .i64 t.m.x,.int .i64 t.m.y,.int .i64 t.m.d,.int .i64 t.m.e] 86)) (.cells #[.int .i64 0,.int .i64 0,.int .i64 0,.int .i64 0,.int .i64 0] 86))).below hb1;have oB:=(bV.box (w.alloc (.cells #[.int .i64 t.c,.int .i64 t.m.x,.int .i64 t.m.y,.int .i64 t.m.d,.int .i64 t.m.e] 86)) 86 bJ).below hb1
 rw[World.size_alloc]at oB;have hz1:w.heap.size+1<w1.heap.size:=by have:=hb1.size;simp at this;omega
 have OA:=aA oA;have OB:=aA oB
 have HB2:=aA (HB1.out.alloc HB1.out.size (.cells #[.int .i64 l.c,.int .i64 l.m.x,.int .i64 l.m.y,.int .i64 l.m.d,.int .i64 l.m.e] 86));obtain⟨r0,r1,r2,r3,r4⟩:=oA;clear hb1 c1 oB;have hz0:w.heap.size<w1.heap.size:=by omega
 go_wp2_with fail;clear r0 r1 r2 r3 r4;refine(LD hq _).mono ?_;rintro r w2 ⟨rfl,hb2⟩;have HB3:=aA (aB HB2.out hb2)
 have oA2:=(OA.out.below (aC w1 (.cells #[.int .i64 l.c,.int .i64 l.m.x,.int .i64 l.m.y,.int .i64 l.m.d,.int .i64 l.m.e] 86))).below hb2;obtain⟨⟨e0,e1,e2,e3,e4⟩,ez⟩:=(OB.out.below (aC w1 (.cells #[.int .i64 l.c,.int .i64 l.m.x,.int .i64 l.m.y,.int .i64 l.m.d,.int .i64 l.m.e] 86))).below hb2;have oL:=(C5.box w1 86 l).below hb2
 have hz2:w1.heap.size<w2.heap.size:=by have:=hb2.size;simp at this;omega
 have hz3:w.heap.size+1<w2.heap.size:=by omega
 have hz4:w.heap.size<w2.heap.size:=by omega
 have k0:w2.cell? ⟨w.heap.size,0,none⟩=some (.int .i64 t.c):=oA2.1;have k1:w2.cell? ⟨w1.heap.size,0,none⟩=some (.int .i64 l.c):=oL.1
 have HB4:=aA (HB3.out.alloc HB3.out.size (.cells #[.int .i64 q.x,.int .i64 q.y,.int .i64 q.d,.int .i64 q.e] 84));have hS:L6 w.heap.size w1.heap.size w2.heap.size t.c l.c q (w2.alloc (.cells #[.int .i64 q.x,.int .i64 q.y,.int .i64 q.d,.int .i64 q.e] 84)):=by have h4:=M4.box w2 84 q.x q.y q.d q.e;exact⟨(JB _ _ _ hz4).trans k0,(JB _ _ _ hz2).trans k1,h4.1,h4.2.1,h4.2.2.1,h4.2.2.2⟩
 have s0:=(JB w2 (.cells #[.int .i64 q.x,.int .i64 q.y,.int .i64 q.d,.int .i64 q.e] 84) ⟨w.heap.size+1,0,none⟩ hz3).trans e0;have s1:=(JB w2 (.cells #[.int .i64 q.x,.int .i64 q.y,.int .i64 q.d,.int .i64 q.e] 84) ⟨w.heap.size+1,1,none⟩ hz3).trans e1
 have s2:=(JB w2 (.cells #[.int .i64 q.x,.int .i64 q.y,.int .i64 q.d,.int .i64 q.e] 84) ⟨w.heap.size+1,2,none⟩ hz3).trans e2;have s3:=(JB w2 (.cells #[.int .i64 q.x,.int .i64 q.y,.int .i64 q.d,.int .i64 q.e] 84) ⟨w.heap.size+1,3,none⟩ hz3).trans e3
 have s4:=(JB w2 (.cells #[.int .i64 q.x,.int .i64 q.y,.int .i64 q.d,.int .i64 q.e] 84) ⟨w.heap.size+1,4,none⟩ hz3).trans e4;have sz:=fun i=>((aC w2 (.cells #[.int .i64 q.x,.int .i64 q.y,.int .i64 q.d,.int .i64 q.e] 84)).frozen (p:=⟨w.heap.size+1,i,none⟩) hz3).trans (ez i)
 clear hb2 oA2 oL OA OB hq;go_wp2_with fail;clear e0 e1 e2 e3 e4 ez;generalize(w2.alloc (.cells #[.int .i64 q.x,.int .i64 q.y,.int .i64 q.d,.int .i64 q.e] 84))=W at *;have hSd:L6 w.heap.size w1.heap.size w2.heap.size t.c l.c q W.drew:=hS
 have hn1:w.heap.size≠w.heap.size+1:=by omega
 have hn2:w1.heap.size≠w.heap.size+1:=by omega
 have hn3:w2.heap.size≠w.heap.size+1:=by omega
 go_region_held3 (fun u=>u.cell? ⟨w.heap.size,0,none⟩=some (.int .i64 t.c)∧u.cell? ⟨w1.heap.size,0,none⟩=some (.int .i64 l.c)∧u.cell? ⟨w2.heap.size,0,none⟩=some (.int .i64 q.x)∧u.cell? ⟨w2.heap.size,1,none⟩=some (.int .i64 q.y)∧u.cell? ⟨w2.heap.size,2,none⟩=some (.int .i64 q.d)∧u.cell? ⟨w2.heap.size,3,none⟩=some (.int .i64 q.e)) (first|with_reducible exact hSd|with_reducible exact XC hS hn1 hn2 hn3) (first|(go_at_call 134;refine(c3 _).mono ?_;rintro r w7 ⟨rfl,hw7⟩;obtain rfl:=hw7.symm;clear hw7))
 go_wp2;refine cD (v:=.agg #[.int .i64 (t.c*y%101),.int .i64 q.x,.int .i64 q.y,.int .i64 q.d,.int .i64 q.e]) (by simp[results,Tryz.results114,go_sem, *]) rfl ⟨rfl,?_⟩;exact(cB HB4.out (by omega) _ _ _ _ _).drew
theorem LK {l:T} {b:M}:gH ⟨1,b⟩ l=iR l b:=by
 unfold gH iR;have:=nZ l.c
 congr 1;show 1*kE l.c%101=kE l.c
 omega
theorem NE (w:World) (o:Int) (a:Option Addr) (n ca:Nat) (f:Nat→T) (b:Option Addr) (m cb:Nat) (g:Nat→T) (ha:Rd w a n ca f) (hb:Rd w b m cb g) (ho':o<1∨(1≤o∧3<o)):Calls Tryz.prog 68 #[.int .i64 o,.slice a n ca,.slice b m cb] w fun r w'=>r= .returned (.tuple #[.agg #[.int .i64 0,.int .i64 0,.int .i64 0,.int .i64 0,.int .i64 0],.agg #[.int .i64 0,.int .i64 0,.int .i64 0,.int .i64 0,.int .i64 0],.bool false])∧Below w.heap.size w w':=by
 have HA:=aA ha;have HB:=aA hb
 have hla:(n:Int)≤140737488351232:=by have:=ha.2.1;omega
 have hlb:(m:Int)≤140737488351232:=by have:=hb.2.1;omega
 have HB0:=aA (aS w (.cells #[.int .i64 0,.int .i64 0,.int .i64 0,.int .i64 0,.int .i64 0] 86) (.cells #[.int .i64 0,.int .i64 0,.int .i64 0,.int .i64 0,.int .i64 0] 86));have oA0:=(bV.box w 86 bJ).below (aC (w.alloc (.cells #[.int .i64 0,.int .i64 0,.int .i64 0,.int .i64 0,.int .i64 0] 86)) (.cells #[.int .i64 0,.int .i64 0,.int .i64 0,.int .i64 0,.int .i64 0] 86))
 have oB0:=bV.box (w.alloc (.cells #[.int .i64 0,.int .i64 0,.int .i64 0,.int .i64 0,.int .i64 0] 86)) 86 bJ;rw[World.size_alloc]at oB0;have OA:=aA oA0
 have OB:=aA oB0;clear ha hb oA0 oB0;go_enter Tryz.func68,Tryz.ntmps68;go_wp2_with (go_at_call 30;refine(eC _ _ _ _ ho').mono ?_;rintro r w' ⟨rfl,hw'⟩;obtain rfl:=hw'.symm;clear hw');refine cD (v:=.tuple #[.agg #[.int .i64 0,.int .i64 0,.int .i64 0,.int .i64 0,.int .i64 0],.agg #[.int .i64 0,.int .i64 0,.int .i64 0,.int .i64 0,.int .i64 0],.bool false]) (by simp[results,Tryz.results68,go_sem, *]) rfl ⟨rfl,HB0.out⟩
theorem MZ (w:World) (o:Int) (a:Option Addr) (n ca:Nat) (f:Nat→T) (b:Option Addr) (m cb:Nat) (g:Nat→T) (ha:Rd w a n ca f) (hb:Rd w b m cb g) (o1:1≤o) (o2:o≤3) (hp:aO n f=false):Calls Tryz.prog 68 #[.int .i64 o,.slice a n ca,.slice b m cb] w fun r w'=>r= .returned (.tuple #[.agg #[.int .i64 0,.int .i64 0,.int .i64 0,.int .i64 0,.int .i64 0],.agg #[.int .i64 0,.int .i64 0,.int .i64 0,.int .i64 0,.int .i64 0],.bool false])∧Below w.heap.size w w':=by
 have HA:=aA ha;have HB:=aA hb
 have hla:(n:Int)≤140737488351232:=by have:=ha.2.1;omega
 have hlb:(m:Int)≤140737488351232:=by have:=hb.2.1;omega
 have HB0:=aA (aS w (.cells #[.int .i64 0,.int .i64 0,.int .i64 0,.int .i64 0,.int .i64 0] 86) (.cells #[.int .i64 0,.int .i64 0,.int .i64 0,.int .i64 0,.int .i64 0] 86));have oA0:=(bV.box w 86 bJ).below (aC (w.alloc (.cells #[.int .i64 0,.int .i64 0,.int .i64 0,.int .i64 0,.int .i64 0] 86)) (.cells #[.int .i64 0,.int .i64 0,.int .i64 0,.int .i64 0,.int .i64 0] 86))
 have oB0:=bV.box (w.alloc (.cells #[.int .i64 0,.int .i64 0,.int .i64 0,.int .i64 0,.int .i64 0] 86)) 86 bJ;rw[World.size_alloc]at oB0;have OA:=aA oA0
 have OB:=aA oB0;clear ha hb oA0 oB0;go_enter Tryz.func68,Tryz.ntmps68;go_wp2_with (go_at_call 30;refine(cX _ _ _ _ o1 o2).mono ?_;rintro r w' ⟨rfl,hw'⟩;obtain rfl:=hw'.symm;clear hw');refine(nK _ _ _ _ f (HA.out.below HB0.out)).mono ?_;rw[hp];rintro r w1 ⟨rfl,hb1⟩;have HB1:=aA (aB HB0.out hb1)
 have OA1:=aA (OA.out.below hb1);have OB1:=aA (OB.out.below hb1)
 clear hb1 OA OB;obtain⟨⟨e0,e1,e2,e3,e4⟩,ez⟩:=OA1.out;obtain⟨⟨g0,g1,g2,g3,g4⟩,gz⟩:=OB1.out;have hl2:w.heap.size+1<w1.heap.size:=dD w1 _ g0
 have hl1:w.heap.size<w1.heap.size:=by omega
 go_wp2;refine cD (v:=.tuple #[.agg #[.int .i64 0,.int .i64 0,.int .i64 0,.int .i64 0,.int .i64 0],.agg #[.int .i64 0,.int .i64 0,.int .i64 0,.int .i64 0,.int .i64 0],.bool false]) (by simp[results,Tryz.results68,go_sem, *]) rfl ⟨rfl,?_⟩;with_reducible exact cB (cB HB1.out (by omega) _ _ _ _ _) (by omega) _ _ _ _ _
theorem NA (w:World) (o:Int) (a:Option Addr) (n ca:Nat) (f:Nat→T) (b:Option Addr) (m cb:Nat) (g:Nat→T) (ha:Rd w a n ca f) (hb:Rd w b m cb g) (o1:1≤o) (o2:o≤3) (hp:aO n f=true) (hq:aO m g=false):Calls Tryz.prog 68 #[.int .i64 o,.slice a n ca,.slice b m cb] w fun r w'=>r= .returned (.tuple #[.agg #[.int .i64 0,.int .i64 0,.int .i64 0,.int .i64 0,.int .i64 0],.agg #[.int .i64 0,.int .i64 0,.int .i64 0,.int .i64 0,.int .i64 0],.bool false])∧Below w.heap.size w w':=by
 have HA:=aA ha;have HB:=aA hb
 have hla:(n:Int)≤140737488351232:=by have:=ha.2.1;omega
 have hlb:(m:Int)≤140737488351232:=by have:=hb.2.1;omega
 have HB0:=aA (aS w (.cells #[.int .i64 0,.int .i64 0,.int .i64 0,.int .i64 0,.int .i64 0] 86) (.cells #[.int .i64 0,.int .i64 0,.int .i64 0,.int .i64 0,.int .i64 0] 86));have oA0:=(bV.box w 86 bJ).below (aC (w.alloc (.cells #[.int .i64 0,.int .i64 0,.int .i64 0,.int .i64 0,.int .i64 0] 86)) (.cells #[.int .i64 0,.int .i64 0,.int .i64 0,.int .i64 0,.int .i64 0] 86))
 have oB0:=bV.box (w.alloc (.cells #[.int .i64 0,.int .i64 0,.int .i64 0,.int .i64 0,.int .i64 0] 86)) 86 bJ;rw[World.size_alloc]at oB0;have OA:=aA oA0
 have OB:=aA oB0;clear ha hb oA0 oB0;go_enter Tryz.func68,Tryz.ntmps68;go_wp2_with (go_at_call 30;refine(cX _ _ _ _ o1 o2).mono ?_;rintro r w' ⟨rfl,hw'⟩;obtain rfl:=hw'.symm;clear hw');refine(nK _ _ _ _ f (HA.out.below HB0.out)).mono ?_;rw[hp];rintro r w1 ⟨rfl,hb1⟩;have HB1:=aA (aB HB0.out hb1)
 have OA1:=aA (OA.out.below hb1);have OB1:=aA (OB.out.below hb1)
 clear hb1 OA OB;go_wp2_with fail;refine(nK _ _ _ _ g (HB.out.below HB1.out)).mono ?_;rw[hq];rintro r w2 ⟨rfl,hb1⟩;have HB2:=aA (aB HB1.out hb1)
 have OA11:=aA (OA1.out.below hb1);have OB11:=aA (OB1.out.below hb1)
 clear hb1 OA1 OB1;obtain⟨⟨e0,e1,e2,e3,e4⟩,ez⟩:=OA11.out;obtain⟨⟨g0,g1,g2,g3,g4⟩,gz⟩:=OB11.out;have hl2:w.heap.size+1<w2.heap.size:=dD w2 _ g0
 have hl1:w.heap.size<w2.heap.size:=by omega
 go_wp2;refine cD (v:=.tuple #[.agg #[.int .i64 0,.int .i64 0,.int .i64 0,.int .i64 0,.int .i64 0],.agg #[.int .i64 0,.int .i64 0,.int .i64 0,.int .i64 0,.int .i64 0],.bool false]) (by simp[results,Tryz.results68,go_sem, *]) rfl ⟨rfl,?_⟩;with_reducible exact cB (cB HB2.out (by omega) _ _ _ _ _) (by omega) _ _ _ _ _
theorem ND (w:World) (o:Int) (a:Option Addr) (n ca:Nat) (f:Nat→T) (b:Option Addr) (m cb:Nat) (g:Nat→T) (ha:Rd w a n ca f) (hb:Rd w b m cb g) (o1:1≤o) (o2:o≤3) (hp:aO n f=true) (hq:aO m g=true) (h0:n=0):Calls Tryz.prog 68 #[.int .i64 o,.slice a n ca,.slice b m cb] w fun r w'=>r= .returned (.tuple #[.agg #[.int .i64 0,.int .i64 0,.int .i64 0,.int .i64 0,.int .i64 0],.agg #[.int .i64 0,.int .i64 0,.int .i64 0,.int .i64 0,.int .i64 0],.bool false])∧Below w.heap.size w w':=by
 have HA:=aA ha;have HB:=aA hb
 have hla:(n:Int)≤140737488351232:=by have:=ha.2.1;omega
 have hlb:(m:Int)≤140737488351232:=by have:=hb.2.1;omega
 have HB0:=aA (aS w (.cells #[.int .i64 0,.int .i64 0,.int .i64 0,.int .i64 0,.int .i64 0] 86) (.cells #[.int .i64 0,.int .i64 0,.int .i64 0,.int .i64 0,.int .i64 0] 86));have oA0:=(bV.box w 86 bJ).below (aC (w.alloc (.cells #[.int .i64 0,.int .i64 0,.int .i64 0,.int .i64 0,.int .i64 0] 86)) (.cells #[.int .i64 0,.int .i64 0,.int .i64 0,.int .i64 0,.int .i64 0] 86))
 have oB0:=bV.box (w.alloc (.cells #[.int .i64 0,.int .i64 0,.int .i64 0,.int .i64 0,.int .i64 0] 86)) 86 bJ;rw[World.size_alloc]at oB0;have OA:=aA oA0
 have OB:=aA oB0;clear ha hb oA0 oB0;have hne:((n:Int)==0)=true:=by simp;omega
 clear h0;go_enter Tryz.func68,Tryz.ntmps68;go_wp2_with (go_at_call 30;refine(cX _ _ _ _ o1 o2).mono ?_;rintro r w' ⟨rfl,hw'⟩;obtain rfl:=hw'.symm;clear hw');refine(nK _ _ _ _ f (HA.out.below HB0.out)).mono ?_;rw[hp];rintro r w1 ⟨rfl,hb1⟩;have HB1:=aA (aB HB0.out hb1)
 have OA1:=aA (OA.out.below hb1);have OB1:=aA (OB.out.below hb1)
 clear hb1 OA OB;go_wp2_with fail;refine(nK _ _ _ _ g (HB.out.below HB1.out)).mono ?_;rw[hq];rintro r w2 ⟨rfl,hb1⟩;have HB2:=aA (aB HB1.out hb1)
 have OA11:=aA (OA1.out.below hb1);have OB11:=aA (OB1.out.below hb1)
 clear hb1 OA1 OB1;obtain⟨⟨e0,e1,e2,e3,e4⟩,ez⟩:=OA11.out;obtain⟨⟨g0,g1,g2,g3,g4⟩,gz⟩:=OB11.out;have hl2:w.heap.size+1<w2.heap.size:=dD w2 _ g0
 have hl1:w.heap.size<w2.heap.size:=by omega
 go_wp2;refine cD (v:=.tuple #[.agg #[.int .i64 0,.int .i64 0,.int .i64 0,.int .i64 0,.int .i64 0],.agg #[.int .i64 0,.int .i64 0,.int .i64 0,.int .i64 0,.int .i64 0],.bool false]) (by simp[results,Tryz.results68,go_sem, *]) rfl ⟨rfl,?_⟩;with_reducible exact cB (cB HB2.out (by omega) _ _ _ _ _) (by omega) _ _ _ _ _
theorem NC (w:World) (o:Int) (a:Option Addr) (n ca:Nat) (f:Nat→T) (b:Option Addr) (m cb:Nat) (g:Nat→T) (ha:Rd w a n ca f) (hb:Rd w b m cb g) (o1:1≤o) (o2:o≤3) (hp:aO n f=true) (hq:aO m g=true) (h0:n≠0) (h1:m=0):Calls Tryz.prog 68 #[.int .i64 o,.slice a n ca,.slice b m cb] w fun r w'=>r= .returned (.tuple #[.agg #[.int .i64 0,.int .i64 0,.int .i64 0,.int .i64 0,.int .i64 0],.agg #[.int .i64 0,.int .i64 0,.int .i64 0,.int .i64 0,.int .i64 0],.bool false])∧Below w.heap.size w w':=by
 have HA:=aA ha;have HB:=aA hb
 have hla:(n:Int)≤140737488351232:=by have:=ha.2.1;omega
 have hlb:(m:Int)≤140737488351232:=by have:=hb.2.1;omega
 have HB0:=aA (aS w (.cells #[.int .i64 0,.int .i64 0,.int .i64 0,.int .i64 0,.int .i64 0] 86) (.cells #[.int .i64 0,.int .i64 0,.int .i64 0,.int .i64 0,.int .i64 0] 86));have oA0:=(bV.box w 86 bJ).below (aC (w.alloc (.cells #[.int .i64 0,.int .i64 0,.int .i64 0,.int .i64 0,.int .i64 0] 86)) (.cells #[.int .i64 0,.int .i64 0,.int .i64 0,.int .i64 0,.int .i64 0] 86))
 have oB0:=bV.box (w.alloc (.cells #[.int .i64 0,.int .i64 0,.int .i64 0,.int .i64 0,.int .i64 0] 86)) 86 bJ;rw[World.size_alloc]at oB0;have OA:=aA oA0
 have OB:=aA oB0;clear ha hb oA0 oB0;have hne:((n:Int)==0)=false:=by simp;omega
 have hme:((m:Int)==0)=true:=by simp;omega
 clear h0 h1;go_enter Tryz.func68,Tryz.ntmps68;go_wp2_with (go_at_call 30;refine(cX _ _ _ _ o1 o2).mono ?_;rintro r w' ⟨rfl,hw'⟩;obtain rfl:=hw'.symm;clear hw');refine(nK _ _ _ _ f (HA.out.below HB0.out)).mono ?_;rw[hp];rintro r w1 ⟨rfl,hb1⟩;have HB1:=aA (aB HB0.out hb1)
 have OA1:=aA (OA.out.below hb1);have OB1:=aA (OB.out.below hb1)
 clear hb1 OA OB;go_wp2_with fail;refine(nK _ _ _ _ g (HB.out.below HB1.out)).mono ?_;rw[hq];rintro r w2 ⟨rfl,hb1⟩;have HB2:=aA (aB HB1.out hb1)
 have OA11:=aA (OA1.out.below hb1);have OB11:=aA (OB1.out.below hb1)
 clear hb1 OA1 OB1;obtain⟨⟨e0,e1,e2,e3,e4⟩,ez⟩:=OA11.out;obtain⟨⟨g0,g1,g2,g3,g4⟩,gz⟩:=OB11.out;have hl2:w.heap.size+1<w2.heap.size:=dD w2 _ g0
 have hl1:w.heap.size<w2.heap.size:=by omega
 go_wp2;refine cD (v:=.tuple #[.agg #[.int .i64 0,.int .i64 0,.int .i64 0,.int .i64 0,.int .i64 0],.agg #[.int .i64 0,.int .i64 0,.int .i64 0,.int .i64 0,.int .i64 0],.bool false]) (by simp[results,Tryz.results68,go_sem, *]) rfl ⟨rfl,?_⟩;with_reducible exact cB (cB HB2.out (by omega) _ _ _ _ _) (by omega) _ _ _ _ _
theorem NF (w:World) (o:Int) (a:Option Addr) (n ca:Nat) (f:Nat→T) (b:Option Addr) (m cb:Nat) (g:Nat→T) (ha:Rd w a n ca f) (hb:Rd w b m cb g) (o1:1≤o) (o2:o≤3) (hp:aO n f=true) (hq:aO m g=true) (pn:0<n) (pm:0<m):Calls Tryz.prog 68 #[.int .i64 o,.slice a n ca,.slice b m cb] w fun r w'=>r= .returned (.tuple #[.agg #[.int .i64 (eZ o n f m g).c,.int .i64 (eZ o n f m g).m.x,.int .i64 (eZ o n f m g).m.y,.int .i64 (eZ o n f m g).m.d,.int .i64 (eZ o n f m g).m.e],.agg #[.int .i64 (fC o n f m g).c,.int .i64 (fC o n f m g).m.x,.int .i64 (fC o n f m g).m.y,.int .i64 (fC o n f m g).m.d,.int .i64 (fC o n f m g).m.e],.bool (fM o n f m g)])∧Below w.heap.size w w':=by
 have HA:=aA ha;have HB:=aA hb
 have hla:(n:Int)≤140737488351232:=by have:=ha.2.1;omega
 have hlb:(m:Int)≤140737488351232:=by have:=hb.2.1;omega
 have HB0:=aA (aS w (.cells #[.int .i64 0,.int .i64 0,.int .i64 0,.int .i64 0,.int .i64 0] 86) (.cells #[.int .i64 0,.int .i64 0,.int .i64 0,.int .i64 0,.int .i64 0] 86));have oA0:=(bV.box w 86 bJ).below (aC (w.alloc (.cells #[.int .i64 0,.int .i64 0,.int .i64 0,.int .i64 0,.int .i64 0] 86)) (.cells #[.int .i64 0,.int .i64 0,.int .i64 0,.int .i64 0,.int .i64 0] 86))
 have oB0:=bV.box (w.alloc (.cells #[.int .i64 0,.int .i64 0,.int .i64 0,.int .i64 0,.int .i64 0] 86)) 86 bJ;rw[World.size_alloc]at oB0;have OA:=aA oA0
 have OB:=aA oB0;clear ha hb oA0 oB0;have hk1:bF o n f=true:=by unfold bF;rw[hp,decide_eq_true (show 1≤o∧o≤3 from⟨o1,o2⟩),decide_eq_true pn];rfl
 have hk2:bF o m g=true:=by unfold bF;rw[hq,decide_eq_true (show 1≤o∧o≤3 from⟨o1,o2⟩),decide_eq_true pm];rfl
 have hk:fM o n f m g=true:=by unfold fM;rw[hk1,hk2];rfl
 have eU:eZ o n f m g=gH ⟨1,M.both (f (bC o f n)).m (g (bC o g m)).m⟩ (f (bC o f n)):=by rw[LK];unfold eZ nM;rw[if_pos hk,eK hk1,eK hk2]
 have eV:fC o n f m g=gH ⟨1,M.both (f (bC o f n)).m (g (bC o g m)).m⟩ (g (bC o g m)):=by rw[LK];unfold fC nM;rw[if_pos hk,eK hk1,eK hk2]
 rw[eU,eV,hk];have hne:((n:Int)==0)=false:=by simp;omega
 have hme:((m:Int)==0)=false:=by simp;omega
 have HF:=aA (wB hp);have HG:=aA (wB hq)
 have c1:=fun(W:World) (h:Rd W a n ca f)=>sE W o a n ca f h pn HF.out;have c2:=fun(W:World) (h:Rd W b m cb g)=>sE W o b m cb g h pm HG.out
 have c3:=fun(W:World) (q:M) (h:Rd W a n ca f)=>GG W o ⟨1,q⟩ a n ca f h pn HF.out (show(0:Int)≤1 by decide) (show(1:Int)≤100 by decide);have c4:=fun(W:World) (q:M) (h:Rd W b m cb g)=>GG W o ⟨1,q⟩ b m cb g h pm HG.out (show(0:Int)≤1 by decide) (show(1:Int)≤100 by decide)
 clear eU eV hk hk1 hk2 pn pm;generalize f (bC o f n)=s at *;generalize g (bC o g m)=t at *;obtain⟨q,hqq⟩:∃q,M.both ⟨s.m.x,s.m.y,s.m.d,s.m.e⟩ ⟨t.m.x,t.m.y,t.m.d,t.m.e⟩=q:=⟨_,rfl⟩
 rw[show M.both s.m t.m=q from hqq];have d3:=fun W=>c3 W q
 have d4:=fun W=>c4 W q;clear c3 c4;generalize gH ⟨1,q⟩ s=U at *;generalize gH ⟨1,q⟩ t=V at *;dsimp only at d3 d4;have hfs:∀W:World,(Instr.field 86 (Value.agg #[.int .i64 s.c,.int .i64 s.m.x,.int .i64 s.m.y,.int .i64 s.m.d,.int .i64 s.m.e]) 1).run Tryz.prog W= .ok (Value.agg #[.int .i64 s.m.x,.int .i64 s.m.y,.int .i64 s.m.d,.int .i64 s.m.e]) W:=fun W=>by kernel_rfl
 have hft:∀W:World,(Instr.field 86 (Value.agg #[.int .i64 t.c,.int .i64 t.m.x,.int .i64 t.m.y,.int .i64 t.m.d,.int .i64 t.m.e]) 1).run Tryz.prog W= .ok (Value.agg #[.int .i64 t.m.x,.int .i64 t.m.y,.int .i64 t.m.d,.int .i64 t.m.e]) W:=fun W=>by kernel_rfl
 go_enter Tryz.func68,Tryz.ntmps68;go_wp2_with (go_at_call 30;refine(cX _ _ _ _ o1 o2).mono ?_;rintro r w' ⟨rfl,hw'⟩;obtain rfl:=hw'.symm;clear hw');refine(nK _ _ _ _ f (HA.out.below HB0.out)).mono ?_;rw[hp];rintro r w1 ⟨rfl,hb1⟩;have HB1:=aA (aB HB0.out hb1)
 have OA1:=aA (OA.out.below hb1);have OB1:=aA (OB.out.below hb1)
 clear hb1 OA OB;go_wp2_with fail;refine(nK _ _ _ _ g (HB.out.below HB1.out)).mono ?_;rw[hq];rintro r w2 ⟨rfl,hb1⟩;have HB2:=aA (aB HB1.out hb1)
 have OA11:=aA (OA1.out.below hb1);have OB11:=aA (OB1.out.below hb1)
 clear hb1 OA1 OB1;go_wp2_with fail;refine(c1 _ (HA.out.below HB2.out)).mono ?_;rintro r w3 ⟨rfl,hb3⟩;have HB3:=aA (aB HB2.out hb3)
 have OA3:=aA (OA11.out.below hb3);have OB3:=aA (OB11.out.below hb3)
 clear hb3;go_wp2_with fail;refine(c2 _ (HB.out.below HB3.out)).mono ?_;rintro r w4 ⟨rfl,hb4⟩;have HB4:=aA (aB HB3.out hb4)
 have OA4:=aA (OA3.out.below hb4);have OB4:=aA (OB3.out.below hb4)
 clear hb4;go_wp2_with fail;refine(LA hqq _).mono ?_;rintro r w5 ⟨rfl,hb5⟩;have HB5:=aA (aB HB4.out hb5)
 have OA5:=aA (OA4.out.below hb5);have OB5:=aA (OB4.out.below hb5)
 have SZ5:Hid (w.heap.size+1<w5.heap.size):=dD w5 _ OB5.out.1.1;clear hb5 hqq OA11 OB11 OA3 OB3 OA4 OB4 HB0 HB1 HB2 HB3 HB4 c1 c2 hp hq;have tC:=C5.box w5 86 ⟨1,q⟩
 have OA6:=aA (OA5.out.below (aC w5 (.cells #[.int .i64 1,.int .i64 q.x,.int .i64 q.y,.int .i64 q.d,.int .i64 q.e] 86)));have OB6:=aA (OB5.out.below (aC w5 (.cells #[.int .i64 1,.int .i64 q.x,.int .i64 q.y,.int .i64 q.d,.int .i64 q.e] 86)))
 have HB6:=aA (HB5.out.alloc HB5.out.size (.cells #[.int .i64 1,.int .i64 q.x,.int .i64 q.y,.int .i64 q.d,.int .i64 q.e] 86));go_wp2_with fail;clear OA5 OB5 HB5;generalize(w5.alloc (.cells #[.int .i64 1,.int .i64 q.x,.int .i64 q.y,.int .i64 q.d,.int .i64 q.e] 86))=W at *;have hbx:w5.heap.size≠w.heap.size∧w5.heap.size≠w.heap.size+1:=by have:=SZ5.out;omega
 obtain⟨hn1,hn2⟩:=hbx;have HA6:=aA (HA.out.below HB6.out.drew)
 have HBb6:=aA (HB.out.below HB6.out.drew);have tCd:Q5 w5.heap.size q W.drew:=tC
 have OAd:Hid (bV W.drew w.heap.size bJ):=OA6.out;have OBd:Hid (bV W.drew (w.heap.size+1) bJ):=OB6.out
 have HBd:=aA HB6.out.drew;clear OA6 OB6
 go_region_held3 (fun u=>u.cell? ⟨w5.heap.size,0,none⟩=some (.int .i64 1)∧u.cell? ⟨w5.heap.size,1,none⟩=some (.int .i64 q.x)∧u.cell? ⟨w5.heap.size,2,none⟩=some (.int .i64 q.y)∧u.cell? ⟨w5.heap.size,3,none⟩=some (.int .i64 q.d)∧u.cell? ⟨w5.heap.size,4,none⟩=some (.int .i64 q.e)) (first|with_reducible exact tCd|with_reducible exact Q5.below tCd b1|with_reducible exact Q5.below (Q5.below tCd b1) b2|with_reducible exact Q5.far (by assumption) hn1|with_reducible exact Q5.far (by assumption) hn2) (first|(go_at_call 114;(with_reducible refine(d3 _ HA6.out).mono ?_);rintro r w6 ⟨rfl,b1⟩)|(go_at_call 114;(with_reducible refine(d4 _ (HBb6.out.below b1)).mono ?_);rintro r w7 ⟨rfl,b2⟩;obtain⟨⟨e0,e1,e2,e3,e4⟩,ez⟩:=(OAd.out.below b1).below b2;obtain⟨⟨g0,g1,g2,g3,g4⟩,gz⟩:=(OBd.out.below b1).below b2))
 have HB7:=aA (aB (aB HBd.out b1) b2);go_wp2;refine cD (v:=.tuple #[.agg #[.int .i64 U.c,.int .i64 U.m.x,.int .i64 U.m.y,.int .i64 U.m.d,.int .i64 U.m.e],.agg #[.int .i64 V.c,.int .i64 V.m.x,.int .i64 V.m.y,.int .i64 V.m.d,.int .i64 V.m.e],.bool true]) (by simp[results,Tryz.results68,go_sem, *]) rfl ⟨rfl,?_⟩;with_reducible exact cB (cB HB7.out (by omega) _ _ _ _ _) (by omega) _ _ _ _ _
theorem FE (w:World) (o:Int) (a:Option Addr) (n ca:Nat) (f:Nat→T) (b:Option Addr) (m cb:Nat) (g:Nat→T) (ha:Rd w a n ca f) (hb:Rd w b m cb g):Calls Tryz.prog 68 #[.int .i64 o,.slice a n ca,.slice b m cb] w fun r w'=>r= .returned (.tuple #[.agg #[.int .i64 (eZ o n f m g).c,.int .i64 (eZ o n f m g).m.x,.int .i64 (eZ o n f m g).m.y,.int .i64 (eZ o n f m g).m.d,.int .i64 (eZ o n f m g).m.e],.agg #[.int .i64 (fC o n f m g).c,.int .i64 (fC o n f m g).m.x,.int .i64 (fC o n f m g).m.y,.int .i64 (fC o n f m g).m.d,.int .i64 (fC o n f m g).m.e],.bool (fM o n f m g)])∧Below w.heap.size w w':=by
 have key:fM o n f m g=false→(Calls Tryz.prog 68 #[.int .i64 o,.slice a n ca,.slice b m cb] w fun r w'=>r= .returned (.tuple #[.agg #[.int .i64 0,.int .i64 0,.int .i64 0,.int .i64 0,.int .i64 0],.agg #[.int .i64 0,.int .i64 0,.int .i64 0,.int .i64 0,.int .i64 0],.bool false])∧Below w.heap.size w w')→Calls Tryz.prog 68 #[.int .i64 o,.slice a n ca,.slice b m cb] w fun r w'=>r= .returned (.tuple #[.agg #[.int .i64 (eZ o n f m g).c,.int .i64 (eZ o n f m g).m.x,.int .i64 (eZ o n f m g).m.y,.int .i64 (eZ o n f m g).m.d,.int .i64 (eZ o n f m g).m.e],.agg #[.int .i64 (fC o n f m g).c,.int .i64 (fC o n f m g).m.x,.int .i64 (fC o n f m g).m.y,.int .i64 (fC o n f m g).m.d,.int .i64 (fC o n f m g).m.e],.bool (fM o n f m g)])∧Below w.heap.size w w':=fun hk h=>by
  have eU:eZ o n f m g=bJ:=if_neg (by rw[hk];decide);have eV:fC o n f m g=bJ:=if_neg (by rw[hk];decide)
  rw[eU,eV,hk];exact h
 by_cases ho:1≤o∧o≤3
 ·obtain⟨o1,o2⟩:=ho;cases hp:aO n f
  ·exact key (by unfold fM bF;simp[hp]) (MZ w o a n ca f b m cb g ha hb o1 o2 hp)
  ·cases hq:aO m g
   ·exact key (by unfold fM bF;simp[hq]) (NA w o a n ca f b m cb g ha hb o1 o2 hp hq)
   ·by_cases hn0:n=0
    ·exact key (by unfold fM bF;simp[hn0]) (ND w o a n ca f b m cb g ha hb o1 o2 hp hq hn0)
    ·by_cases hm0:m=0
     ·exact key (by unfold fM bF;simp[hm0]) (NC w o a n ca f b m cb g ha hb o1 o2 hp hq hn0 hm0)
     ·exact NF w o a n ca f b m cb g ha hb o1 o2 hp hq (by omega) (by omega)
 ·exact key (by unfold fM bF;simp[ho]) (NE w o a n ca f b m cb g ha hb (by omega))
theorem rM {o:Int} {f:Nat→T}:∀u i k n,k<n→i+u≤n→aW o f u i k<n
 |0,_,_,_,h,_=>h
 |u+1,i,k,n,h,h2=>by
  unfold aW;split
  ·exact rM u (i+1) i n (by omega) (by omega)
  ·exact rM u (i+1) k n h (by omega)
theorem sF {o:Int} {f:Nat→T} {n:Nat} (h:0<n):bC o f n<n:=rM (n-1) 1 0 n h (by omega)
theorem mF {o:Int} {n:Nat} {f:Nat→T} (h:bF o n f=true):(1≤o∧o≤3)∧aO n f=true∧0<n:=by unfold bF at h;simp only[Bool.and_eq_true,decide_eq_true_eq]at h;exact⟨h.1.1,h.1.2,h.2⟩
theorem sG {o:Int} {n:Nat} {f:Nat→T} (h:bF o n f=true):(bN o n f).m.ok=true∧1≤(bN o n f).c∧(bN o n f).c≤100:=by obtain⟨ho,hp,hn⟩:=mF h;rw[eK h];exact(fW hp).2 _ (sF hn)
theorem vG {c:Int} (h1:1≤c) (h2:c≤100):1≤kE c:=by
 have hb:=nZ c;rcases Int.lt_or_le 0 (kE c)with h|h
 ·omega
 ·have h0:kE c=0:=by omega
  have:=vH (b:=c) ⟨by omega,h2⟩ (by omega);rw[h0,jO (by omega) (by omega) (by omega) h2]at this;omega
theorem xU {l:T} {b:M} (h:l.m.ok=true∧1≤l.c∧l.c≤100) (hd:l.m.dvd b=true):(iR l b).m.ok=true∧1≤(iR l b).c∧(iR l b).c≤100:=by
 refine⟨?_,vG h.2.1 h.2.2,(nZ _).2⟩;show((M.over b l.m).1).ok=true
 rw[M.over,if_pos hd];obtain⟨h1,h2,h3⟩:=eX hd;have k1:=M.ok_iff.1 h1
 have k2:=M.ok_iff.1 h2;refine M.ok_iff.2 ?_;simp only[M.diff];omega
theorem wG {o:Int} {n:Nat} {f:Nat→T} {m:Nat} {g:Nat→T} (h:fM o n f m g=true):((eZ o n f m g).m.ok=true∧1≤(eZ o n f m g).c∧(eZ o n f m g).c≤100)∧((fC o n f m g).m.ok=true∧1≤(fC o n f m g).c∧(fC o n f m g).c≤100):=by
 have h':=h;unfold fM at h';rw[Bool.and_eq_true]at h';have ga:=sG h'.1
 have gb:=sG h'.2;obtain⟨d1,d2,_⟩:=uO ga.1 gb.1 (rfl:M.both (bN o n f).m (bN o m g).m=nM o n f m g);unfold eZ fC;rw[if_pos h,if_pos h];exact⟨xU ga d1,xU gb d2⟩
theorem CX {l b:M} (hd:l.dvd b=true):M.mul (M.over b l).1 l=(b,true):=by
 rw[M.over,if_pos hd];obtain⟨h1,h2,h3⟩:=eX hd;have k1:=M.ok_iff.1 h1
 have k2:=M.ok_iff.1 h2;have hok:(b.diff l).ok=true:=by refine M.ok_iff.2 ?_;simp only[M.diff];omega
 have hs:(b.diff l).sum l=b:=by cases b;cases l;simp only[M.diff,M.sum,M.mk.injEq];omega
 unfold M.mul;rw[hs,if_pos ⟨hok,h1,h2⟩]
theorem GT (a b:Int):mx a b-a=0∨mx a b-b=0:=by unfold mx;split<;>omega
theorem SV {o:Int} {n:Nat} {f:Nat→T} {m:Nat} {g:Nat→T} (h:fM o n f m g=true):M.mul (eZ o n f m g).m (bN o n f).m=(nM o n f m g,true)∧M.mul (fC o n f m g).m (bN o m g).m=(nM o n f m g,true)∧qT (eZ o n f m g).c (bN o n f).c=1∧qT (fC o n f m g).c (bN o m g).c=1∧((eZ o n f m g).m.x=0∨(fC o n f m g).m.x=0)∧((eZ o n f m g).m.y=0∨(fC o n f m g).m.y=0)∧((eZ o n f m g).m.d=0∨(fC o n f m g).m.d=0)∧((eZ o n f m g).m.e=0∨(fC o n f m g).m.e=0):=by
 have h':=h;unfold fM at h';rw[Bool.and_eq_true]at h';have ga:=sG h'.1
 have gb:=sG h'.2;obtain⟨d1,d2,_⟩:=uO ga.1 gb.1 (rfl:M.both (bN o n f).m (bN o m g).m=nM o n f m g);have d1:(bN o n f).m.dvd (nM o n f m g)=true:=d1
 have d2:(bN o m g).m.dvd (nM o n f m g)=true:=d2;unfold eZ fC;rw[if_pos h,if_pos h];refine⟨CX d1,CX d2,vH ⟨by omega,ga.2.2⟩ (by omega),vH ⟨by omega,gb.2.2⟩ (by omega),?_⟩;have e1:(iR (bN o n f) (nM o n f m g)).m=(nM o n f m g).diff (bN o n f).m:=by show(M.over _ _).1=_;rw[M.over,if_pos d1]
 have e2:(iR (bN o m g) (nM o n f m g)).m=(nM o n f m g).diff (bN o m g).m:=by show(M.over _ _).1=_;rw[M.over,if_pos d2]
 rw[e1,e2];unfold nM;rw[M.both,if_pos ⟨ga.1,gb.1⟩];exact⟨GT _ _,GT _ _,GT _ _,GT _ _⟩
open Go.RowKit
def lJ (c:Int) (m:M) (L:List T):List T:=if c=0 then L else iJ (lf L) L.length (fun _=>⟨c,m⟩) 1 0 0
def XA (L:List T):Prop:=∀t∈L,0≤t.c∧t.c≤100
theorem FY:XA []:=fun t ht=>by simp at ht
theorem kU {L:List T} {i:Nat} (h:i<L.length):lf L i∈L:=by unfold lf;rw[List.getD_eq_getElem?_getD,List.getElem?_eq_getElem h];exact List.getElem_mem h
theorem XA.at {L:List T} (h:XA L):∀i,i<L.length→0≤(lf L i).c∧(lf L i).c≤100:=fun i hi=>h _ (kU hi)
theorem FR {f:Nat→T} {la:Nat} {g:Nat→T} {lb:Nat} (hf:∀i,i<la→0≤(f i).c∧(f i).c≤100) (hg:∀i,i<lb→0≤(g i).c∧(g i).c≤100):∀(u i k:Nat),XA (iV f la g lb u i k)
 |0,_,_=>by intro t ht;simp[iV]at ht
 |u+1,i,k=>by
  have a1:=FR hf hg u (i+1) k;have a2:=FR hf hg u i (k+1)
  have a3:=FR hf hg u (i+1) (k+1);intro t ht;simp only[iV]at ht;split at ht
  ·rename_i hh;split at ht
   ·rcases List.mem_cons.1 ht with rfl|ht
    ·exact hf i hh.1
    ·exact a1 t ht
   ·split at ht
    ·rcases List.mem_cons.1 ht with rfl|ht
     ·exact hg k hh.2
     ·exact a2 t ht
    ·split at ht
     ·rcases List.mem_cons.1 ht with rfl|ht
      ·dsimp only;omega
      ·exact a3 t ht
     ·exact a3 t ht
  ·split at ht
   ·rename_i hh;rcases List.mem_cons.1 ht with rfl|ht
    ·exact hf i hh
    ·exact a1 t ht
   ·split at ht
    ·rename_i hh;rcases List.mem_cons.1 ht with rfl|ht
     ·exact hg k hh
     ·exact a2 t ht
    ·cases ht
theorem PM {c:Int} {m:M} {L:List T} (hL:XA L) (h0:0≤c) (h1:c≤100):XA (lJ c m L):=by
 unfold lJ;split
 ·exact hL
 ·exact FR hL.at (fun _ _=>⟨h0,h1⟩) _ _ _
theorem wC (c:Int) (m:M) (L:List T):(lJ c m L).length≤L.length+1:=by
 unfold lJ;split
 ·omega
 ·have:=AC (lf L) L.length (fun _=>⟨c,m⟩) 1 0 0;omega
theorem Bo (w:World) (t:T):Rd (w.alloc (.cells #[.int .i64 t.c,.int .i64 t.m.x,.int .i64 t.m.y,.int .i64 t.m.d,.int .i64 t.m.e] 86)) (some ⟨w.heap.size,0,none⟩) 1 1 (fun _=>t):=by
 refine⟨Nat.le_refl _,by omega,.inr ⟨w.heap.size,0,rfl,by simp,fun i hi=>?_⟩⟩;obtain rfl:i=0:=by omega
 exact⟨by rw[World.cell?_alloc_at _ _ _ _ rfl];rfl,by rw[World.cell?_alloc_at _ _ _ _ rfl];rfl,by rw[World.cell?_alloc_at _ _ _ _ rfl];rfl,by rw[World.cell?_alloc_at _ _ _ _ rfl];rfl,by rw[World.cell?_alloc_at _ _ _ _ rfl];rfl⟩
theorem GF (w:World) (lo:Nat) (v:Value) (L:List T) (c x y d e:Int) (ho:w.ownsRow lo 86 5 v L.length (aE L)) (hlo:lo≤w.heap.size) (hl:L.length≤1000) (hL:XA L) (h0:0≤c) (h1:c≤100):Calls Tryz.prog 83 #[v,.int .i64 c,.agg #[.int .i64 x,.int .i64 y,.int .i64 d,.int .i64 e]] w fun r w'=>∃v',r= .returned v'∧Below w.heap.size w w'∧w'.ownsRow lo 86 5 v' (lJ c ⟨x,y,d,e⟩ L).length (aE (lJ c ⟨x,y,d,e⟩ L)):=by
 by_cases hc:c=0
 ·subst hc;have e1:lJ 0 ⟨x,y,d,e⟩ L=L:=by simp[lJ]
  rw[e1];have HO:=aA (dZ ho (aC w (.cells #[.int .i64 x,.int .i64 y,.int .i64 d,.int .i64 e] 84)))
  clear ho e1;go_enter Tryz.func83,Tryz.ntmps83;go_wp2;go_ret;exact⟨_,rfl,aC w _,HO.out⟩
 ·have hcb:(c==0)=false:=by simp[hc]
  have e1:lJ c ⟨x,y,d,e⟩ L=iJ (lf L) L.length (fun _=>⟨c,⟨x,y,d,e⟩⟩) 1 0 0:=by simp[lJ,hc]
  rw[e1];obtain⟨a,cap,rfl,hout⟩:=aI ho (by omega);have HR:=aA hout.1
  clear ho hout hc e1;go_enter Tryz.func83,Tryz.ntmps83;go_wp2_with fail;have ha:=aA ((HR.out.below (aC w (.cells #[.int .i64 x,.int .i64 y,.int .i64 d,.int .i64 e] 84))).below (aC _ (.cells #[.int .i64 c,.int .i64 x,.int .i64 y,.int .i64 d,.int .i64 e] 86)))
  have hb:=Bo (w.alloc (.cells #[.int .i64 x,.int .i64 y,.int .i64 d,.int .i64 e] 84)) ⟨c,⟨x,y,d,e⟩⟩;have hb2:Rd ((w.alloc (.cells #[.int .i64 x,.int .i64 y,.int .i64 d,.int .i64 e] 84)).alloc (.cells #[.int .i64 c,.int .i64 x,.int .i64 y,.int .i64 d,.int .i64 e] 86)) (some ⟨w.heap.size+1,0,none⟩) 1 1 (fun _=>⟨c,⟨x,y,d,e⟩⟩):=by simpa using hb
  have hz:=aA (aB (aC w (.cells #[.int .i64 x,.int .i64 y,.int .i64 d,.int .i64 e] 84)) (aC _ (.cells #[.int .i64 c,.int .i64 x,.int .i64 y,.int .i64 d,.int .i64 e] 86)));clear hb;generalize((w.alloc (.cells #[.int .i64 x,.int .i64 y,.int .i64 d,.int .i64 e] 84)).alloc (.cells #[.int .i64 c,.int .i64 x,.int .i64 y,.int .i64 d,.int .i64 e] 86))=W at ha hb2 hz⊢;refine(rK _ _ _ _ _ _ _ (lf L) (fun _=>⟨c,⟨x,y,d,e⟩⟩) ha.out hb2 (by omega) hL.at (fun _ _=>⟨h0,h1⟩)).mono ?_;rintro r w1 ⟨v',rfl,hb1,hown⟩;have HB:=aA (aB hz.out hb1)
  have HO:=aA (PI hown (jQ hlo hz.out.size));clear hb2 hb1 hown ha hz HR;go_wp2;go_ret;exact⟨_,rfl,HB.out,HO.out⟩
end Go.Proofs.YtelkehjdfcoeiaaGreat
