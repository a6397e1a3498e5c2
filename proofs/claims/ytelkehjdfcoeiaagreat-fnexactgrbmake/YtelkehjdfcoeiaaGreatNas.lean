/-
  The two terms of a pair of operators: the model.
-/
import Derived.Test.YtelkehjdfcoeiaaGreatNar
set_option maxHeartbeats 4000000
set_option maxRecDepth 100000
namespace Go.Proofs.YtelkehjdfcoeiaaGreat
open Go.RowKit Go.Deep Go.Joins
set_option linter.unusedVariables false
abbrev L6 (A B C:Nat) (x y:Int) (m:M) (u:World):Prop:=u.cell? ⟨A,0,none⟩=some (.int .i64 x)∧u.cell? ⟨B,0,none⟩=some (.int .i64 y)∧u.cell? ⟨C,0,none⟩=some (.int .i64 m.x)∧u.cell? ⟨C,1,none⟩=some (.int .i64 m.y)∧u.cell? ⟨C,2,none⟩=some (.int .i64 m.d)∧u.cell? ⟨C,3,none⟩=some (.int .i64 m.e)
theorem NA {A B C D:Nat} {x y:Int} {m:M} {u:World} {v0 v1 v2 v3 v4:Value} (h:L6 A B C x y m u) (h1:A≠D) (h2:B≠D) (h3:C≠D):L6 A B C x y m (((((u.setCell ⟨D,0,none⟩ v0).setCell ⟨D,1,none⟩ v1).setCell ⟨D,2,none⟩ v2).setCell ⟨D,3,none⟩ v3).setCell ⟨D,4,none⟩ v4).drew:=
 have key:∀v:World,L6 A B C x y m v→L6 A B C x y m v.drew:=fun v h=>h
 key _ ⟨(pD h1).trans h.1,(pD h2).trans h.2.1,(pD h3).trans h.2.2.1,(pD h3).trans h.2.2.2.1,(pD h3).trans h.2.2.2.2.1,(pD h3).trans h.2.2.2.2.2⟩
abbrev Q5 (B:Nat) (q:M) (u:World):Prop:=u.cell? ⟨B,0,none⟩=some (.int .i64 1)∧u.cell? ⟨B,1,none⟩=some (.int .i64 q.x)∧u.cell? ⟨B,2,none⟩=some (.int .i64 q.y)∧u.cell? ⟨B,3,none⟩=some (.int .i64 q.d)∧u.cell? ⟨B,4,none⟩=some (.int .i64 q.e)
theorem Q5.below {B:Nat} {q:M} {u u':World} (h:Q5 B q u) (hb:Below u.heap.size u u'):Q5 B q u':=
 have l:=cQ u ⟨B,0,none⟩ h.1
 ⟨(hb.cell (p:=⟨B,0,none⟩) l).trans h.1,(hb.cell (p:=⟨B,1,none⟩) l).trans h.2.1,(hb.cell (p:=⟨B,2,none⟩) l).trans h.2.2.1,(hb.cell (p:=⟨B,3,none⟩) l).trans h.2.2.2.1,(hb.cell (p:=⟨B,4,none⟩) l).trans h.2.2.2.2⟩
theorem Q5.far {w:World} {B b:Nat} {q:M} {v0 v1 v2 v3 v4:Value} (m:Q5 b q w) (h:b≠B):Q5 b q (((((w.setCell ⟨B,0,none⟩ v0).setCell ⟨B,1,none⟩ v1).setCell ⟨B,2,none⟩ v2).setCell ⟨B,3,none⟩ v3).setCell ⟨B,4,none⟩ v4):=
 ⟨(pD h).trans m.1,(pD h).trans m.2.1,(pD h).trans m.2.2.1,(pD h).trans m.2.2.2.1,(pD h).trans m.2.2.2.2⟩
def eK (t l:T):T:=⟨t.c*lI l.c%101,(M.over t.m l.m).1⟩
theorem zQ (w:World) (o:Int) (t:T) (b:Option Addr) (m cb:Nat) (g:Nat→T) (hb:Rd w b m cb g) (hm:0<m) (hg:∀i,i<m→(g i).m.ok=true) (t1:0≤t.c) (t2:t.c≤100):Calls Tryz.prog 114 #[.int .i64 o,.agg #[.int .i64 t.c,.int .i64 t.m.x,.int .i64 t.m.y,.int .i64 t.m.d,.int .i64 t.m.e],.slice b m cb] w fun r w'=>r= .returned (.agg #[.int .i64 (eK t (g (aT o g m))).c,.int .i64 (eK t (g (aT o g m))).m.x,.int .i64 (eK t (g (aT o g m))).m.y,.int .i64 (eK t (g (aT o g m))).m.d,.int .i64 (eK t (g (aT o g m))).m.e])∧Below w.heap.size w w':=by
 have hmb:(m:Int)≤140737488351232:=by have:=hb.2.1;omega
 have HG:=aA hb;have HM:=aA hg
 have HB0:=aA (aN w (.cells #[.int .i64 t.c,.int .i64 t.m.x,.int .i64 t.m.y,.int .i64 t.m.d,.int .i64 t.m.e] 86) (.cells #[.int .i64 0,.int .i64 0,.int .i64 0,.int .i64 0,.int .i64 0] 86));have c1:=fun(W:World) (h:Rd W b m cb g)=>rI W o b m cb g h hm HM.out
 clear hb hg;generalize g (aT o g m)=l at *;obtain⟨q,bv,hq⟩:∃q bv,M.over ⟨t.m.x,t.m.y,t.m.d,t.m.e⟩ ⟨l.m.x,l.m.y,l.m.d,l.m.e⟩=(q,bv):=⟨_,_,rfl⟩
 have e1:eK t l=⟨t.c*lI l.c%101,q⟩:=by unfold eK;rw[show M.over t.m l.m=(q,bv)from hq]
 rw[e1];clear e1;obtain⟨f1,f2⟩:=qX l.c;obtain⟨y,hy⟩:∃y,lI l.c=y:=⟨_,rfl⟩
 have c3:=fun W=>ZZ l.c W;rw[hy]at f1 f2 c3⊢;clear hy;have p1:0≤t.c*y:=Int.mul_nonneg t1 f1
 have p2:t.c*y≤10000:=by have h1:t.c*y≤100*y:=Int.mul_le_mul_of_nonneg_right t2 f1;omega
 have p3:IntKind.i64.wrap (t.c*y)=t.c*y:=by rw[IntKind.wrap_i64];omega
 have p4:(t.c*y).tmod 101=t.c*y%101:=Int.tmod_eq_emod_of_nonneg p1;go_enter Tryz.func114,Tryz.ntmps114;go_wp2_with fail;refine(c1 _ (HG.out.below HB0.out)).mono ?_;rintro r w1 ⟨rfl,hb1⟩;have HB1:=aA (aB HB0.out hb1)
 have oA:=((C5.box w 86 t).below (aC (w.alloc (.cells #[.int .i64 t.c,.int .i64 t.m.x,.int .i64 t.m.y,.int .i64 t.m.d,.int .i64 t.m.e] 86)) (.cells #[.int .i64 0,.int .i64 0,.int .i64 0,.int .i64 0,.int .i64 0] 86))).below hb1;have oB:=(bH.box (w.alloc (.cells #[.int .i64 t.c,.int .i64 t.m.x,.int .i64 t.m.y,.int .i64 t.m.d,.int .i64 t.m.e] 86)) 86 aX).below hb1
 rw[World.size_alloc]at oB;have hz1:w.heap.size+1<w1.heap.size:=by have:=hb1.size;simp at this;omega
 have OA:=aA oA;have OB:=aA oB
 have HB2:=aA (HB1.out.alloc HB1.out.size (.cells #[.int .i64 l.c,.int .i64 l.m.x,.int .i64 l.m.y,.int .i64 l.m.d,.int .i64 l.m.e] 86));obtain⟨r0,r1,r2,r3,r4⟩:=oA;clear hb1 c1 oB;have hz0:w.heap.size<w1.heap.size:=by omega
 go_wp2_with fail;clear r0 r1 r2 r3 r4;refine(DF hq _).mono ?_;rintro r w2 ⟨rfl,hb2⟩;have HB3:=aA (aB HB2.out hb2)
 have oA2:=(OA.out.below (aC w1 (.cells #[.int .i64 l.c,.int .i64 l.m.x,.int .i64 l.m.y,.int .i64 l.m.d,.int .i64 l.m.e] 86))).below hb2;obtain⟨⟨e0,e1,e2,e3,e4⟩,ez⟩:=(OB.out.below (aC w1 (.cells #[.int .i64 l.c,.int .i64 l.m.x,.int .i64 l.m.y,.int .i64 l.m.d,.int .i64 l.m.e] 86))).below hb2;have oL:=(C5.box w1 86 l).below hb2
 have hz2:w1.heap.size<w2.heap.size:=by have:=hb2.size;simp at this;omega
 have hz3:w.heap.size+1<w2.heap.size:=by omega
 have hz4:w.heap.size<w2.heap.size:=by omega
 have k0:w2.cell? ⟨w.heap.size,0,none⟩=some (.int .i64 t.c):=oA2.1;have k1:w2.cell? ⟨w1.heap.size,0,none⟩=some (.int .i64 l.c):=oL.1
 have HB4:=aA (HB3.out.alloc HB3.out.size (.cells #[.int .i64 q.x,.int .i64 q.y,.int .i64 q.d,.int .i64 q.e] 84));have hS:L6 w.heap.size w1.heap.size w2.heap.size t.c l.c q (w2.alloc (.cells #[.int .i64 q.x,.int .i64 q.y,.int .i64 q.d,.int .i64 q.e] 84)):=by have h4:=M4.box w2 84 q.x q.y q.d q.e;exact⟨(BH _ _ _ hz4).trans k0,(BH _ _ _ hz2).trans k1,h4.1,h4.2.1,h4.2.2.1,h4.2.2.2⟩
 have s0:=(BH w2 (.cells #[.int .i64 q.x,.int .i64 q.y,.int .i64 q.d,.int .i64 q.e] 84) ⟨w.heap.size+1,0,none⟩ hz3).trans e0;have s1:=(BH w2 (.cells #[.int .i64 q.x,.int .i64 q.y,.int .i64 q.d,.int .i64 q.e] 84) ⟨w.heap.size+1,1,none⟩ hz3).trans e1
 have s2:=(BH w2 (.cells #[.int .i64 q.x,.int .i64 q.y,.int .i64 q.d,.int .i64 q.e] 84) ⟨w.heap.size+1,2,none⟩ hz3).trans e2;have s3:=(BH w2 (.cells #[.int .i64 q.x,.int .i64 q.y,.int .i64 q.d,.int .i64 q.e] 84) ⟨w.heap.size+1,3,none⟩ hz3).trans e3
 have s4:=(BH w2 (.cells #[.int .i64 q.x,.int .i64 q.y,.int .i64 q.d,.int .i64 q.e] 84) ⟨w.heap.size+1,4,none⟩ hz3).trans e4;have sz:=fun i=>((aC w2 (.cells #[.int .i64 q.x,.int .i64 q.y,.int .i64 q.d,.int .i64 q.e] 84)).frozen (p:=⟨w.heap.size+1,i,none⟩) hz3).trans (ez i)
 clear hb2 oA2 oL OA OB hq;go_wp2_with fail;clear e0 e1 e2 e3 e4 ez;generalize(w2.alloc (.cells #[.int .i64 q.x,.int .i64 q.y,.int .i64 q.d,.int .i64 q.e] 84))=W at *;have hSd:L6 w.heap.size w1.heap.size w2.heap.size t.c l.c q W.drew:=hS
 have hn1:w.heap.size≠w.heap.size+1:=by omega
 have hn2:w1.heap.size≠w.heap.size+1:=by omega
 have hn3:w2.heap.size≠w.heap.size+1:=by omega
 go_region_held3 (fun u=>u.cell? ⟨w.heap.size,0,none⟩=some (.int .i64 t.c)∧u.cell? ⟨w1.heap.size,0,none⟩=some (.int .i64 l.c)∧u.cell? ⟨w2.heap.size,0,none⟩=some (.int .i64 q.x)∧u.cell? ⟨w2.heap.size,1,none⟩=some (.int .i64 q.y)∧u.cell? ⟨w2.heap.size,2,none⟩=some (.int .i64 q.d)∧u.cell? ⟨w2.heap.size,3,none⟩=some (.int .i64 q.e)) (first|with_reducible exact hSd|with_reducible exact NA hS hn1 hn2 hn3) (first|(go_at_call 134;refine(c3 _).mono ?_;rintro r w7 ⟨rfl,hw7⟩;obtain rfl:=hw7.symm;clear hw7))
 go_wp2;refine cV (v:=.agg #[.int .i64 (t.c*y%101),.int .i64 q.x,.int .i64 q.y,.int .i64 q.d,.int .i64 q.e]) (by simp[results,Tryz.results114,go_sem, *]) rfl ⟨rfl,?_⟩;exact(bC HB4.out (by omega) _ _ _ _ _).drew
theorem DJ {l:T} {b:M}:eK ⟨1,b⟩ l=gG l b:=by
 unfold eK gG;have:=qX l.c
 congr 1;show 1*lI l.c%101=lI l.c
 omega
theorem EM (w:World) (o:Int) (a:Option Addr) (n ca:Nat) (f:Nat→T) (b:Option Addr) (m cb:Nat) (g:Nat→T) (ha:Rd w a n ca f) (hb:Rd w b m cb g) (ho':o<1∨(1≤o∧3<o)):Calls Tryz.prog 68 #[.int .i64 o,.slice a n ca,.slice b m cb] w fun r w'=>r= .returned (.tuple #[.agg #[.int .i64 0,.int .i64 0,.int .i64 0,.int .i64 0,.int .i64 0],.agg #[.int .i64 0,.int .i64 0,.int .i64 0,.int .i64 0,.int .i64 0],.bool false])∧Below w.heap.size w w':=by
 have HA:=aA ha;have HB:=aA hb
 have hla:(n:Int)≤140737488351232:=by have:=ha.2.1;omega
 have hlb:(m:Int)≤140737488351232:=by have:=hb.2.1;omega
 have HB0:=aA (aN w (.cells #[.int .i64 0,.int .i64 0,.int .i64 0,.int .i64 0,.int .i64 0] 86) (.cells #[.int .i64 0,.int .i64 0,.int .i64 0,.int .i64 0,.int .i64 0] 86));have oA0:=(bH.box w 86 aX).below (aC (w.alloc (.cells #[.int .i64 0,.int .i64 0,.int .i64 0,.int .i64 0,.int .i64 0] 86)) (.cells #[.int .i64 0,.int .i64 0,.int .i64 0,.int .i64 0,.int .i64 0] 86))
 have oB0:=bH.box (w.alloc (.cells #[.int .i64 0,.int .i64 0,.int .i64 0,.int .i64 0,.int .i64 0] 86)) 86 aX;rw[World.size_alloc]at oB0;have OA:=aA oA0
 have OB:=aA oB0;clear ha hb oA0 oB0;go_enter Tryz.func68,Tryz.ntmps68;go_wp2_with (go_at_call 30;refine(dC _ _ _ _ ho').mono ?_;rintro r w' ⟨rfl,hw'⟩;obtain rfl:=hw'.symm;clear hw');refine cV (v:=.tuple #[.agg #[.int .i64 0,.int .i64 0,.int .i64 0,.int .i64 0,.int .i64 0],.agg #[.int .i64 0,.int .i64 0,.int .i64 0,.int .i64 0,.int .i64 0],.bool false]) (by simp[results,Tryz.results68,go_sem, *]) rfl ⟨rfl,HB0.out⟩
theorem EI (w:World) (o:Int) (a:Option Addr) (n ca:Nat) (f:Nat→T) (b:Option Addr) (m cb:Nat) (g:Nat→T) (ha:Rd w a n ca f) (hb:Rd w b m cb g) (o1:1≤o) (o2:o≤3) (hp:aK n f=false):Calls Tryz.prog 68 #[.int .i64 o,.slice a n ca,.slice b m cb] w fun r w'=>r= .returned (.tuple #[.agg #[.int .i64 0,.int .i64 0,.int .i64 0,.int .i64 0,.int .i64 0],.agg #[.int .i64 0,.int .i64 0,.int .i64 0,.int .i64 0,.int .i64 0],.bool false])∧Below w.heap.size w w':=by
 have HA:=aA ha;have HB:=aA hb
 have hla:(n:Int)≤140737488351232:=by have:=ha.2.1;omega
 have hlb:(m:Int)≤140737488351232:=by have:=hb.2.1;omega
 have HB0:=aA (aN w (.cells #[.int .i64 0,.int .i64 0,.int .i64 0,.int .i64 0,.int .i64 0] 86) (.cells #[.int .i64 0,.int .i64 0,.int .i64 0,.int .i64 0,.int .i64 0] 86));have oA0:=(bH.box w 86 aX).below (aC (w.alloc (.cells #[.int .i64 0,.int .i64 0,.int .i64 0,.int .i64 0,.int .i64 0] 86)) (.cells #[.int .i64 0,.int .i64 0,.int .i64 0,.int .i64 0,.int .i64 0] 86))
 have oB0:=bH.box (w.alloc (.cells #[.int .i64 0,.int .i64 0,.int .i64 0,.int .i64 0,.int .i64 0] 86)) 86 aX;rw[World.size_alloc]at oB0;have OA:=aA oA0
 have OB:=aA oB0;clear ha hb oA0 oB0;go_enter Tryz.func68,Tryz.ntmps68;go_wp2_with (go_at_call 30;refine(cO _ _ _ _ o1 o2).mono ?_;rintro r w' ⟨rfl,hw'⟩;obtain rfl:=hw'.symm;clear hw');refine(kL _ _ _ _ f (HA.out.below HB0.out)).mono ?_;rw[hp];rintro r w1 ⟨rfl,hb1⟩;have HB1:=aA (aB HB0.out hb1)
 have OA1:=aA (OA.out.below hb1);have OB1:=aA (OB.out.below hb1)
 clear hb1 OA OB;obtain⟨⟨e0,e1,e2,e3,e4⟩,ez⟩:=OA1.out;obtain⟨⟨g0,g1,g2,g3,g4⟩,gz⟩:=OB1.out;have hl2:w.heap.size+1<w1.heap.size:=cQ w1 _ g0
 have hl1:w.heap.size<w1.heap.size:=by omega
 go_wp2;refine cV (v:=.tuple #[.agg #[.int .i64 0,.int .i64 0,.int .i64 0,.int .i64 0,.int .i64 0],.agg #[.int .i64 0,.int .i64 0,.int .i64 0,.int .i64 0,.int .i64 0],.bool false]) (by simp[results,Tryz.results68,go_sem, *]) rfl ⟨rfl,?_⟩;with_reducible exact bC (bC HB1.out (by omega) _ _ _ _ _) (by omega) _ _ _ _ _
theorem EJ (w:World) (o:Int) (a:Option Addr) (n ca:Nat) (f:Nat→T) (b:Option Addr) (m cb:Nat) (g:Nat→T) (ha:Rd w a n ca f) (hb:Rd w b m cb g) (o1:1≤o) (o2:o≤3) (hp:aK n f=true) (hq:aK m g=false):Calls Tryz.prog 68 #[.int .i64 o,.slice a n ca,.slice b m cb] w fun r w'=>r= .returned (.tuple #[.agg #[.int .i64 0,.int .i64 0,.int .i64 0,.int .i64 0,.int .i64 0],.agg #[.int .i64 0,.int .i64 0,.int .i64 0,.int .i64 0,.int .i64 0],.bool false])∧Below w.heap.size w w':=by
 have HA:=aA ha;have HB:=aA hb
 have hla:(n:Int)≤140737488351232:=by have:=ha.2.1;omega
 have hlb:(m:Int)≤140737488351232:=by have:=hb.2.1;omega
 have HB0:=aA (aN w (.cells #[.int .i64 0,.int .i64 0,.int .i64 0,.int .i64 0,.int .i64 0] 86) (.cells #[.int .i64 0,.int .i64 0,.int .i64 0,.int .i64 0,.int .i64 0] 86));have oA0:=(bH.box w 86 aX).below (aC (w.alloc (.cells #[.int .i64 0,.int .i64 0,.int .i64 0,.int .i64 0,.int .i64 0] 86)) (.cells #[.int .i64 0,.int .i64 0,.int .i64 0,.int .i64 0,.int .i64 0] 86))
 have oB0:=bH.box (w.alloc (.cells #[.int .i64 0,.int .i64 0,.int .i64 0,.int .i64 0,.int .i64 0] 86)) 86 aX;rw[World.size_alloc]at oB0;have OA:=aA oA0
 have OB:=aA oB0;clear ha hb oA0 oB0;go_enter Tryz.func68,Tryz.ntmps68;go_wp2_with (go_at_call 30;refine(cO _ _ _ _ o1 o2).mono ?_;rintro r w' ⟨rfl,hw'⟩;obtain rfl:=hw'.symm;clear hw');refine(kL _ _ _ _ f (HA.out.below HB0.out)).mono ?_;rw[hp];rintro r w1 ⟨rfl,hb1⟩;have HB1:=aA (aB HB0.out hb1)
 have OA1:=aA (OA.out.below hb1);have OB1:=aA (OB.out.below hb1)
 clear hb1 OA OB;go_wp2_with fail;refine(kL _ _ _ _ g (HB.out.below HB1.out)).mono ?_;rw[hq];rintro r w2 ⟨rfl,hb1⟩;have HB2:=aA (aB HB1.out hb1)
 have OA11:=aA (OA1.out.below hb1);have OB11:=aA (OB1.out.below hb1)
 clear hb1 OA1 OB1;obtain⟨⟨e0,e1,e2,e3,e4⟩,ez⟩:=OA11.out;obtain⟨⟨g0,g1,g2,g3,g4⟩,gz⟩:=OB11.out;have hl2:w.heap.size+1<w2.heap.size:=cQ w2 _ g0
 have hl1:w.heap.size<w2.heap.size:=by omega
 go_wp2;refine cV (v:=.tuple #[.agg #[.int .i64 0,.int .i64 0,.int .i64 0,.int .i64 0,.int .i64 0],.agg #[.int .i64 0,.int .i64 0,.int .i64 0,.int .i64 0,.int .i64 0],.bool false]) (by simp[results,Tryz.results68,go_sem, *]) rfl ⟨rfl,?_⟩;with_reducible exact bC (bC HB2.out (by omega) _ _ _ _ _) (by omega) _ _ _ _ _
theorem EL (w:World) (o:Int) (a:Option Addr) (n ca:Nat) (f:Nat→T) (b:Option Addr) (m cb:Nat) (g:Nat→T) (ha:Rd w a n ca f) (hb:Rd w b m cb g) (o1:1≤o) (o2:o≤3) (hp:aK n f=true) (hq:aK m g=true) (h0:n=0):Calls Tryz.prog 68 #[.int .i64 o,.slice a n ca,.slice b m cb] w fun r w'=>r= .returned (.tuple #[.agg #[.int .i64 0,.int .i64 0,.int .i64 0,.int .i64 0,.int .i64 0],.agg #[.int .i64 0,.int .i64 0,.int .i64 0,.int .i64 0,.int .i64 0],.bool false])∧Below w.heap.size w w':=by
 have HA:=aA ha;have HB:=aA hb
 have hla:(n:Int)≤140737488351232:=by have:=ha.2.1;omega
 have hlb:(m:Int)≤140737488351232:=by have:=hb.2.1;omega
 have HB0:=aA (aN w (.cells #[.int .i64 0,.int .i64 0,.int .i64 0,.int .i64 0,.int .i64 0] 86) (.cells #[.int .i64 0,.int .i64 0,.int .i64 0,.int .i64 0,.int .i64 0] 86));have oA0:=(bH.box w 86 aX).below (aC (w.alloc (.cells #[.int .i64 0,.int .i64 0,.int .i64 0,.int .i64 0,.int .i64 0] 86)) (.cells #[.int .i64 0,.int .i64 0,.int .i64 0,.int .i64 0,.int .i64 0] 86))
 have oB0:=bH.box (w.alloc (.cells #[.int .i64 0,.int .i64 0,.int .i64 0,.int .i64 0,.int .i64 0] 86)) 86 aX;rw[World.size_alloc]at oB0;have OA:=aA oA0
 have OB:=aA oB0;clear ha hb oA0 oB0;have hne:((n:Int)==0)=true:=by simp;omega
 clear h0;go_enter Tryz.func68,Tryz.ntmps68;go_wp2_with (go_at_call 30;refine(cO _ _ _ _ o1 o2).mono ?_;rintro r w' ⟨rfl,hw'⟩;obtain rfl:=hw'.symm;clear hw');refine(kL _ _ _ _ f (HA.out.below HB0.out)).mono ?_;rw[hp];rintro r w1 ⟨rfl,hb1⟩;have HB1:=aA (aB HB0.out hb1)
 have OA1:=aA (OA.out.below hb1);have OB1:=aA (OB.out.below hb1)
 clear hb1 OA OB;go_wp2_with fail;refine(kL _ _ _ _ g (HB.out.below HB1.out)).mono ?_;rw[hq];rintro r w2 ⟨rfl,hb1⟩;have HB2:=aA (aB HB1.out hb1)
 have OA11:=aA (OA1.out.below hb1);have OB11:=aA (OB1.out.below hb1)
 clear hb1 OA1 OB1;obtain⟨⟨e0,e1,e2,e3,e4⟩,ez⟩:=OA11.out;obtain⟨⟨g0,g1,g2,g3,g4⟩,gz⟩:=OB11.out;have hl2:w.heap.size+1<w2.heap.size:=cQ w2 _ g0
 have hl1:w.heap.size<w2.heap.size:=by omega
 go_wp2;refine cV (v:=.tuple #[.agg #[.int .i64 0,.int .i64 0,.int .i64 0,.int .i64 0,.int .i64 0],.agg #[.int .i64 0,.int .i64 0,.int .i64 0,.int .i64 0,.int .i64 0],.bool false]) (by simp[results,Tryz.results68,go_sem, *]) rfl ⟨rfl,?_⟩;with_reducible exact bC (bC HB2.out (by omega) _ _ _ _ _) (by omega) _ _ _ _ _
theorem EK (w:World) (o:Int) (a:Option Addr) (n ca:Nat) (f:Nat→T) (b:Option Addr) (m cb:Nat) (g:Nat→T) (ha:Rd w a n ca f) (hb:Rd w b m cb g) (o1:1≤o) (o2:o≤3) (hp:aK n f=true) (hq:aK m g=true) (h0:n≠0) (h1:m=0):Calls Tryz.prog 68 #[.int .i64 o,.slice a n ca,.slice b m cb] w fun r w'=>r= .returned (.tuple #[.agg #[.int .i64 0,.int .i64 0,.int .i64 0,.int .i64 0,.int .i64 0],.agg #[.int .i64 0,.int .i64 0,.int .i64 0,.int .i64 0,.int .i64 0],.bool false])∧Below w.heap.size w w':=by
 have HA:=aA ha;have HB:=aA hb
 have hla:(n:Int)≤140737488351232:=by have:=ha.2.1;omega
 have hlb:(m:Int)≤140737488351232:=by have:=hb.2.1;omega
 have HB0:=aA (aN w (.cells #[.int .i64 0,.int .i64 0,.int .i64 0,.int .i64 0,.int .i64 0] 86) (.cells #[.int .i64 0,.int .i64 0,.int .i64 0,.int .i64 0,.int .i64 0] 86));have oA0:=(bH.box w 86 aX).below (aC (w.alloc (.cells #[.int .i64 0,.int .i64 0,.int .i64 0,.int .i64 0,.int .i64 0] 86)) (.cells #[.int .i64 0,.int .i64 0,.int .i64 0,.int .i64 0,.int .i64 0] 86))
 have oB0:=bH.box (w.alloc (.cells #[.int .i64 0,.int .i64 0,.int .i64 0,.int .i64 0,.int .i64 0] 86)) 86 aX;rw[World.size_alloc]at oB0;have OA:=aA oA0
 have OB:=aA oB0;clear ha hb oA0 oB0;have hne:((n:Int)==0)=false:=by simp;omega
 have hme:((m:Int)==0)=true:=by simp;omega
 clear h0 h1;go_enter Tryz.func68,Tryz.ntmps68;go_wp2_with (go_at_call 30;refine(cO _ _ _ _ o1 o2).mono ?_;rintro r w' ⟨rfl,hw'⟩;obtain rfl:=hw'.symm;clear hw');refine(kL _ _ _ _ f (HA.out.below HB0.out)).mono ?_;rw[hp];rintro r w1 ⟨rfl,hb1⟩;have HB1:=aA (aB HB0.out hb1)
 have OA1:=aA (OA.out.below hb1);have OB1:=aA (OB.out.below hb1)
 clear hb1 OA OB;go_wp2_with fail;refine(kL _ _ _ _ g (HB.out.below HB1.out)).mono ?_;rw[hq];rintro r w2 ⟨rfl,hb1⟩;have HB2:=aA (aB HB1.out hb1)
 have OA11:=aA (OA1.out.below hb1);have OB11:=aA (OB1.out.below hb1)
 clear hb1 OA1 OB1;obtain⟨⟨e0,e1,e2,e3,e4⟩,ez⟩:=OA11.out;obtain⟨⟨g0,g1,g2,g3,g4⟩,gz⟩:=OB11.out;have hl2:w.heap.size+1<w2.heap.size:=cQ w2 _ g0
 have hl1:w.heap.size<w2.heap.size:=by omega
 go_wp2;refine cV (v:=.tuple #[.agg #[.int .i64 0,.int .i64 0,.int .i64 0,.int .i64 0,.int .i64 0],.agg #[.int .i64 0,.int .i64 0,.int .i64 0,.int .i64 0,.int .i64 0],.bool false]) (by simp[results,Tryz.results68,go_sem, *]) rfl ⟨rfl,?_⟩;with_reducible exact bC (bC HB2.out (by omega) _ _ _ _ _) (by omega) _ _ _ _ _
theorem EN (w:World) (o:Int) (a:Option Addr) (n ca:Nat) (f:Nat→T) (b:Option Addr) (m cb:Nat) (g:Nat→T) (ha:Rd w a n ca f) (hb:Rd w b m cb g) (o1:1≤o) (o2:o≤3) (hp:aK n f=true) (hq:aK m g=true) (pn:0<n) (pm:0<m):Calls Tryz.prog 68 #[.int .i64 o,.slice a n ca,.slice b m cb] w fun r w'=>r= .returned (.tuple #[.agg #[.int .i64 (eR o n f m g).c,.int .i64 (eR o n f m g).m.x,.int .i64 (eR o n f m g).m.y,.int .i64 (eR o n f m g).m.d,.int .i64 (eR o n f m g).m.e],.agg #[.int .i64 (eS o n f m g).c,.int .i64 (eS o n f m g).m.x,.int .i64 (eS o n f m g).m.y,.int .i64 (eS o n f m g).m.d,.int .i64 (eS o n f m g).m.e],.bool (eQ o n f m g)])∧Below w.heap.size w w':=by
 have HA:=aA ha;have HB:=aA hb
 have hla:(n:Int)≤140737488351232:=by have:=ha.2.1;omega
 have hlb:(m:Int)≤140737488351232:=by have:=hb.2.1;omega
 have HB0:=aA (aN w (.cells #[.int .i64 0,.int .i64 0,.int .i64 0,.int .i64 0,.int .i64 0] 86) (.cells #[.int .i64 0,.int .i64 0,.int .i64 0,.int .i64 0,.int .i64 0] 86));have oA0:=(bH.box w 86 aX).below (aC (w.alloc (.cells #[.int .i64 0,.int .i64 0,.int .i64 0,.int .i64 0,.int .i64 0] 86)) (.cells #[.int .i64 0,.int .i64 0,.int .i64 0,.int .i64 0,.int .i64 0] 86))
 have oB0:=bH.box (w.alloc (.cells #[.int .i64 0,.int .i64 0,.int .i64 0,.int .i64 0,.int .i64 0] 86)) 86 aX;rw[World.size_alloc]at oB0;have OA:=aA oA0
 have OB:=aA oB0;clear ha hb oA0 oB0;have hk1:aY o n f=true:=by unfold aY;rw[hp,decide_eq_true (show 1≤o∧o≤3 from⟨o1,o2⟩),decide_eq_true pn];rfl
 have hk2:aY o m g=true:=by unfold aY;rw[hq,decide_eq_true (show 1≤o∧o≤3 from⟨o1,o2⟩),decide_eq_true pm];rfl
 have hk:eQ o n f m g=true:=by unfold eQ;rw[hk1,hk2];rfl
 have eU:eR o n f m g=eK ⟨1,M.both (f (aT o f n)).m (g (aT o g m)).m⟩ (f (aT o f n)):=by rw[DJ];unfold eR kT;rw[if_pos hk,eI hk1,eI hk2]
 have eV:eS o n f m g=eK ⟨1,M.both (f (aT o f n)).m (g (aT o g m)).m⟩ (g (aT o g m)):=by rw[DJ];unfold eS kT;rw[if_pos hk,eI hk1,eI hk2]
 rw[eU,eV,hk];have hne:((n:Int)==0)=false:=by simp;omega
 have hme:((m:Int)==0)=false:=by simp;omega
 have HF:=aA (rS hp);have HG:=aA (rS hq)
 have c1:=fun(W:World) (h:Rd W a n ca f)=>rI W o a n ca f h pn HF.out;have c2:=fun(W:World) (h:Rd W b m cb g)=>rI W o b m cb g h pm HG.out
 have c3:=fun(W:World) (q:M) (h:Rd W a n ca f)=>zQ W o ⟨1,q⟩ a n ca f h pn HF.out (show(0:Int)≤1 by decide) (show(1:Int)≤100 by decide);have c4:=fun(W:World) (q:M) (h:Rd W b m cb g)=>zQ W o ⟨1,q⟩ b m cb g h pm HG.out (show(0:Int)≤1 by decide) (show(1:Int)≤100 by decide)
 clear eU eV hk hk1 hk2 pn pm;generalize f (aT o f n)=s at *;generalize g (aT o g m)=t at *;obtain⟨q,hqq⟩:∃q,M.both ⟨s.m.x,s.m.y,s.m.d,s.m.e⟩ ⟨t.m.x,t.m.y,t.m.d,t.m.e⟩=q:=⟨_,rfl⟩
 rw[show M.both s.m t.m=q from hqq];have d3:=fun W=>c3 W q
 have d4:=fun W=>c4 W q;clear c3 c4;generalize eK ⟨1,q⟩ s=U at *;generalize eK ⟨1,q⟩ t=V at *;dsimp only at d3 d4;have hfs:∀W:World,(Instr.field 86 (Value.agg #[.int .i64 s.c,.int .i64 s.m.x,.int .i64 s.m.y,.int .i64 s.m.d,.int .i64 s.m.e]) 1).run Tryz.prog W= .ok (Value.agg #[.int .i64 s.m.x,.int .i64 s.m.y,.int .i64 s.m.d,.int .i64 s.m.e]) W:=fun W=>by kernel_rfl
 have hft:∀W:World,(Instr.field 86 (Value.agg #[.int .i64 t.c,.int .i64 t.m.x,.int .i64 t.m.y,.int .i64 t.m.d,.int .i64 t.m.e]) 1).run Tryz.prog W= .ok (Value.agg #[.int .i64 t.m.x,.int .i64 t.m.y,.int .i64 t.m.d,.int .i64 t.m.e]) W:=fun W=>by kernel_rfl
 go_enter Tryz.func68,Tryz.ntmps68;go_wp2_with (go_at_call 30;refine(cO _ _ _ _ o1 o2).mono ?_;rintro r w' ⟨rfl,hw'⟩;obtain rfl:=hw'.symm;clear hw');refine(kL _ _ _ _ f (HA.out.below HB0.out)).mono ?_;rw[hp];rintro r w1 ⟨rfl,hb1⟩;have HB1:=aA (aB HB0.out hb1)
 have OA1:=aA (OA.out.below hb1);have OB1:=aA (OB.out.below hb1)
 clear hb1 OA OB;go_wp2_with fail;refine(kL _ _ _ _ g (HB.out.below HB1.out)).mono ?_;rw[hq];rintro r w2 ⟨rfl,hb1⟩;have HB2:=aA (aB HB1.out hb1)
 have OA11:=aA (OA1.out.below hb1);have OB11:=aA (OB1.out.below hb1)
 clear hb1 OA1 OB1;go_wp2_with fail;refine(c1 _ (HA.out.below HB2.out)).mono ?_;rintro r w3 ⟨rfl,hb3⟩;have HB3:=aA (aB HB2.out hb3)
 have OA3:=aA (OA11.out.below hb3);have OB3:=aA (OB11.out.below hb3)
 clear hb3;go_wp2_with fail;refine(c2 _ (HB.out.below HB3.out)).mono ?_;rintro r w4 ⟨rfl,hb4⟩;have HB4:=aA (aB HB3.out hb4)
 have OA4:=aA (OA3.out.below hb4);have OB4:=aA (OB3.out.below hb4)
 clear hb4;go_wp2_with fail;refine(DB hqq _).mono ?_;rintro r w5 ⟨rfl,hb5⟩;have HB5:=aA (aB HB4.out hb5)
 have OA5:=aA (OA4.out.below hb5);have OB5:=aA (OB4.out.below hb5)
 have SZ5:Hid (w.heap.size+1<w5.heap.size):=cQ w5 _ OB5.out.1.1;clear hb5 hqq OA11 OB11 OA3 OB3 OA4 OB4 HB0 HB1 HB2 HB3 HB4 c1 c2 hp hq;have tC:=C5.box w5 86 ⟨1,q⟩
 have OA6:=aA (OA5.out.below (aC w5 (.cells #[.int .i64 1,.int .i64 q.x,.int .i64 q.y,.int .i64 q.d,.int .i64 q.e] 86)));have OB6:=aA (OB5.out.below (aC w5 (.cells #[.int .i64 1,.int .i64 q.x,.int .i64 q.y,.int .i64 q.d,.int .i64 q.e] 86)))
 have HB6:=aA (HB5.out.alloc HB5.out.size (.cells #[.int .i64 1,.int .i64 q.x,.int .i64 q.y,.int .i64 q.d,.int .i64 q.e] 86));go_wp2_with fail;clear OA5 OB5 HB5;generalize(w5.alloc (.cells #[.int .i64 1,.int .i64 q.x,.int .i64 q.y,.int .i64 q.d,.int .i64 q.e] 86))=W at *;have hbx:w5.heap.size≠w.heap.size∧w5.heap.size≠w.heap.size+1:=by have:=SZ5.out;omega
 obtain⟨hn1,hn2⟩:=hbx;have HA6:=aA (HA.out.below HB6.out.drew)
 have HBb6:=aA (HB.out.below HB6.out.drew);have tCd:Q5 w5.heap.size q W.drew:=tC
 have OAd:Hid (bH W.drew w.heap.size aX):=OA6.out;have OBd:Hid (bH W.drew (w.heap.size+1) aX):=OB6.out
 have HBd:=aA HB6.out.drew;clear OA6 OB6
 go_region_held3 (fun u=>u.cell? ⟨w5.heap.size,0,none⟩=some (.int .i64 1)∧u.cell? ⟨w5.heap.size,1,none⟩=some (.int .i64 q.x)∧u.cell? ⟨w5.heap.size,2,none⟩=some (.int .i64 q.y)∧u.cell? ⟨w5.heap.size,3,none⟩=some (.int .i64 q.d)∧u.cell? ⟨w5.heap.size,4,none⟩=some (.int .i64 q.e)) (first|with_reducible exact tCd|with_reducible exact Q5.below tCd b1|with_reducible exact Q5.below (Q5.below tCd b1) b2|with_reducible exact Q5.far (by assumption) hn1|with_reducible exact Q5.far (by assumption) hn2) (first|(go_at_call 114;(with_reducible refine(d3 _ HA6.out).mono ?_);rintro r w6 ⟨rfl,b1⟩)|(go_at_call 114;(with_reducible refine(d4 _ (HBb6.out.below b1)).mono ?_);rintro r w7 ⟨rfl,b2⟩;obtain⟨⟨e0,e1,e2,e3,e4⟩,ez⟩:=(OAd.out.below b1).below b2;obtain⟨⟨g0,g1,g2,g3,g4⟩,gz⟩:=(OBd.out.below b1).below b2))
 have HB7:=aA (aB (aB HBd.out b1) b2);go_wp2;refine cV (v:=.tuple #[.agg #[.int .i64 U.c,.int .i64 U.m.x,.int .i64 U.m.y,.int .i64 U.m.d,.int .i64 U.m.e],.agg #[.int .i64 V.c,.int .i64 V.m.x,.int .i64 V.m.y,.int .i64 V.m.d,.int .i64 V.m.e],.bool true]) (by simp[results,Tryz.results68,go_sem, *]) rfl ⟨rfl,?_⟩;with_reducible exact bC (bC HB7.out (by omega) _ _ _ _ _) (by omega) _ _ _ _ _
theorem yR (w:World) (o:Int) (a:Option Addr) (n ca:Nat) (f:Nat→T) (b:Option Addr) (m cb:Nat) (g:Nat→T) (ha:Rd w a n ca f) (hb:Rd w b m cb g):Calls Tryz.prog 68 #[.int .i64 o,.slice a n ca,.slice b m cb] w fun r w'=>r= .returned (.tuple #[.agg #[.int .i64 (eR o n f m g).c,.int .i64 (eR o n f m g).m.x,.int .i64 (eR o n f m g).m.y,.int .i64 (eR o n f m g).m.d,.int .i64 (eR o n f m g).m.e],.agg #[.int .i64 (eS o n f m g).c,.int .i64 (eS o n f m g).m.x,.int .i64 (eS o n f m g).m.y,.int .i64 (eS o n f m g).m.d,.int .i64 (eS o n f m g).m.e],.bool (eQ o n f m g)])∧Below w.heap.size w w':=by
 have key:eQ o n f m g=false→(Calls Tryz.prog 68 #[.int .i64 o,.slice a n ca,.slice b m cb] w fun r w'=>r= .returned (.tuple #[.agg #[.int .i64 0,.int .i64 0,.int .i64 0,.int .i64 0,.int .i64 0],.agg #[.int .i64 0,.int .i64 0,.int .i64 0,.int .i64 0,.int .i64 0],.bool false])∧Below w.heap.size w w')→Calls Tryz.prog 68 #[.int .i64 o,.slice a n ca,.slice b m cb] w fun r w'=>r= .returned (.tuple #[.agg #[.int .i64 (eR o n f m g).c,.int .i64 (eR o n f m g).m.x,.int .i64 (eR o n f m g).m.y,.int .i64 (eR o n f m g).m.d,.int .i64 (eR o n f m g).m.e],.agg #[.int .i64 (eS o n f m g).c,.int .i64 (eS o n f m g).m.x,.int .i64 (eS o n f m g).m.y,.int .i64 (eS o n f m g).m.d,.int .i64 (eS o n f m g).m.e],.bool (eQ o n f m g)])∧Below w.heap.size w w':=fun hk h=>by
  have eU:eR o n f m g=aX:=if_neg (by rw[hk];decide);have eV:eS o n f m g=aX:=if_neg (by rw[hk];decide)
  rw[eU,eV,hk];exact h
 by_cases ho:1≤o∧o≤3
 ·obtain⟨o1,o2⟩:=ho;cases hp:aK n f
  ·exact key (by unfold eQ aY;simp[hp]) (EI w o a n ca f b m cb g ha hb o1 o2 hp)
  ·cases hq:aK m g
   ·exact key (by unfold eQ aY;simp[hq]) (EJ w o a n ca f b m cb g ha hb o1 o2 hp hq)
   ·by_cases hn0:n=0
    ·exact key (by unfold eQ aY;simp[hn0]) (EL w o a n ca f b m cb g ha hb o1 o2 hp hq hn0)
    ·by_cases hm0:m=0
     ·exact key (by unfold eQ aY;simp[hm0]) (EK w o a n ca f b m cb g ha hb o1 o2 hp hq hn0 hm0)
     ·exact EN w o a n ca f b m cb g ha hb o1 o2 hp hq (by omega) (by omega)
 ·exact key (by unfold eQ aY;simp[ho]) (EM w o a n ca f b m cb g ha hb (by omega))
theorem nW {o:Int} {f:Nat→T}:∀u i k n,k<n→i+u≤n→aR o f u i k<n
 |0,_,_,_,h,_=>h
 |u+1,i,k,n,h,h2=>by
  unfold aR;split
  ·exact nW u (i+1) i n (by omega) (by omega)
  ·exact nW u (i+1) k n h (by omega)
theorem sR {o:Int} {f:Nat→T} {n:Nat} (h:0<n):aT o f n<n:=nW (n-1) 1 0 n h (by omega)
theorem jM {o:Int} {n:Nat} {f:Nat→T} (h:aY o n f=true):(1≤o∧o≤3)∧aK n f=true∧0<n:=by unfold aY at h;simp only[Bool.and_eq_true,decide_eq_true_eq]at h;exact⟨h.1.1,h.1.2,h.2⟩
theorem oM {o:Int} {n:Nat} {f:Nat→T} (h:aY o n f=true):(bF o n f).m.ok=true∧1≤(bF o n f).c∧(bF o n f).c≤100:=by obtain⟨ho,hp,hn⟩:=jM h;rw[eI h];exact(dR hp).2 _ (sR hn)
theorem CJ {c:Int} (h1:1≤c) (h2:c≤100):1≤lI c:=by
 have hb:=qX c;rcases Int.lt_or_le 0 (lI c)with h|h
 ·omega
 ·have h0:lI c=0:=by omega
  have:=vE (b:=c) ⟨by omega,h2⟩ (by omega);rw[h0,gY (by omega) (by omega) (by omega) h2]at this;omega
theorem tH {l:T} {b:M} (h:l.m.ok=true∧1≤l.c∧l.c≤100) (hd:l.m.dvd b=true):(gG l b).m.ok=true∧1≤(gG l b).c∧(gG l b).c≤100:=by
 refine⟨?_,CJ h.2.1 h.2.2,(qX _).2⟩;show((M.over b l.m).1).ok=true
 rw[M.over,if_pos hd];obtain⟨h1,h2,h3⟩:=jP hd;have k1:=M.ok_iff.1 h1
 have k2:=M.ok_iff.1 h2;refine M.ok_iff.2 ?_;simp only[M.diff];omega
theorem rV {o:Int} {n:Nat} {f:Nat→T} {m:Nat} {g:Nat→T} (h:eQ o n f m g=true):((eR o n f m g).m.ok=true∧1≤(eR o n f m g).c∧(eR o n f m g).c≤100)∧((eS o n f m g).m.ok=true∧1≤(eS o n f m g).c∧(eS o n f m g).c≤100):=by
 have h':=h;unfold eQ at h';rw[Bool.and_eq_true]at h';have ga:=oM h'.1
 have gb:=oM h'.2;obtain⟨d1,d2,_⟩:=qK ga.1 gb.1 (rfl:M.both (bF o n f).m (bF o m g).m=kT o n f m g);unfold eR eS;rw[if_pos h,if_pos h];exact⟨tH ga d1,tH gb d2⟩
theorem wM {l b:M} (hd:l.dvd b=true):M.mul (M.over b l).1 l=(b,true):=by
 rw[M.over,if_pos hd];obtain⟨h1,h2,h3⟩:=jP hd;have k1:=M.ok_iff.1 h1
 have k2:=M.ok_iff.1 h2;have hok:(b.diff l).ok=true:=by refine M.ok_iff.2 ?_;simp only[M.diff];omega
 have hs:(b.diff l).sum l=b:=by cases b;cases l;simp only[M.diff,M.sum,M.mk.injEq];omega
 unfold M.mul;rw[hs,if_pos ⟨hok,h1,h2⟩]
theorem AC (a b:Int):mx a b-a=0∨mx a b-b=0:=by unfold mx;split<;>omega
theorem JP {o:Int} {n:Nat} {f:Nat→T} {m:Nat} {g:Nat→T} (h:eQ o n f m g=true):M.mul (eR o n f m g).m (bF o n f).m=(kT o n f m g,true)∧M.mul (eS o n f m g).m (bF o m g).m=(kT o n f m g,true)∧nT (eR o n f m g).c (bF o n f).c=1∧nT (eS o n f m g).c (bF o m g).c=1∧((eR o n f m g).m.x=0∨(eS o n f m g).m.x=0)∧((eR o n f m g).m.y=0∨(eS o n f m g).m.y=0)∧((eR o n f m g).m.d=0∨(eS o n f m g).m.d=0)∧((eR o n f m g).m.e=0∨(eS o n f m g).m.e=0):=by
 have h':=h;unfold eQ at h';rw[Bool.and_eq_true]at h';have ga:=oM h'.1
 have gb:=oM h'.2;obtain⟨d1,d2,_⟩:=qK ga.1 gb.1 (rfl:M.both (bF o n f).m (bF o m g).m=kT o n f m g);have d1:(bF o n f).m.dvd (kT o n f m g)=true:=d1
 have d2:(bF o m g).m.dvd (kT o n f m g)=true:=d2;unfold eR eS;rw[if_pos h,if_pos h];refine⟨wM d1,wM d2,vE ⟨by omega,ga.2.2⟩ (by omega),vE ⟨by omega,gb.2.2⟩ (by omega),?_⟩;have e1:(gG (bF o n f) (kT o n f m g)).m=(kT o n f m g).diff (bF o n f).m:=by show(M.over _ _).1=_;rw[M.over,if_pos d1]
 have e2:(gG (bF o m g) (kT o n f m g)).m=(kT o n f m g).diff (bF o m g).m:=by show(M.over _ _).1=_;rw[M.over,if_pos d2]
 rw[e1,e2];unfold kT;rw[M.both,if_pos ⟨ga.1,gb.1⟩];exact⟨AC _ _,AC _ _,AC _ _,AC _ _⟩
end Go.Proofs.YtelkehjdfcoeiaaGreat
