/-
  The two terms of a pair of operators: the program and the model.
  The two terms of a pair of operators: the model.
  The two terms of a pair of operators: what is true of them.
-/
import Derived.Test.YtbkighpmkadmmaaMai
set_option maxHeartbeats 4000000
set_option maxRecDepth 100000
namespace Go.Proofs.Ytbkighpmkadmmaa
open Go.RowKit Go.Deep Go.Joins
set_option linter.unusedVariables false
def tP (l:T) (b:M):T:=⟨jT l.c,(M.over b l.m).1⟩
def dC (o:Int) (n:Nat) (f:Nat→T) (m:Nat) (g:Nat→T):Bool:=aX o n f&&aX o m g
def iZ (o:Int) (n:Nat) (f:Nat→T) (m:Nat) (g:Nat→T):M:=M.both (bB o n f).m (bB o m g).m
def cV (o:Int) (n:Nat) (f:Nat→T) (m:Nat) (g:Nat→T):T:=if dC o n f m g=true then tP (bB o n f) (iZ o n f m g)else bQ
def cW (o:Int) (n:Nat) (f:Nat→T) (m:Nat) (g:Nat→T):T:=if dC o n f m g=true then tP (bB o m g) (iZ o n f m g)else bQ
abbrev L6 (A B C:Nat) (x y:Int) (m:M) (u:World):Prop:=u.cell? ⟨A,0,none⟩=some (.int .i64 x)∧u.cell? ⟨B,0,none⟩=some (.int .i64 y)∧u.cell? ⟨C,0,none⟩=some (.int .i64 m.x)∧u.cell? ⟨C,1,none⟩=some (.int .i64 m.y)∧u.cell? ⟨C,2,none⟩=some (.int .i64 m.d)∧u.cell? ⟨C,3,none⟩=some (.int .i64 m.e)
theorem BU {A B C D:Nat} {x y:Int} {m:M} {u:World} {v0 v1 v2 v3 v4:Value} (h:L6 A B C x y m u) (h1:A≠D) (h2:B≠D) (h3:C≠D):L6 A B C x y m (((((u.setCell ⟨D,0,none⟩ v0).setCell ⟨D,1,none⟩ v1).setCell ⟨D,2,none⟩ v2).setCell ⟨D,3,none⟩ v3).setCell ⟨D,4,none⟩ v4).drew:=
 have key:∀v:World,L6 A B C x y m v→L6 A B C x y m v.drew:=fun v h=>h
 key _ ⟨(lE h1).trans h.1,(lE h2).trans h.2.1,(lE h3).trans h.2.2.1,(lE h3).trans h.2.2.2.1,(lE h3).trans h.2.2.2.2.1,(lE h3).trans h.2.2.2.2.2⟩
abbrev Q5 (B:Nat) (q:M) (u:World):Prop:=u.cell? ⟨B,0,none⟩=some (.int .i64 1)∧u.cell? ⟨B,1,none⟩=some (.int .i64 q.x)∧u.cell? ⟨B,2,none⟩=some (.int .i64 q.y)∧u.cell? ⟨B,3,none⟩=some (.int .i64 q.d)∧u.cell? ⟨B,4,none⟩=some (.int .i64 q.e)
theorem Q5.below {B:Nat} {q:M} {u u':World} (h:Q5 B q u) (hb:Below u.heap.size u u'):Q5 B q u':=
 have l:=fG u ⟨B,0,none⟩ h.1
 ⟨(hb.cell (p:=⟨B,0,none⟩) l).trans h.1,(hb.cell (p:=⟨B,1,none⟩) l).trans h.2.1,(hb.cell (p:=⟨B,2,none⟩) l).trans h.2.2.1,(hb.cell (p:=⟨B,3,none⟩) l).trans h.2.2.2.1,(hb.cell (p:=⟨B,4,none⟩) l).trans h.2.2.2.2⟩
theorem Q5.far {w:World} {B b:Nat} {q:M} {v0 v1 v2 v3 v4:Value} (m:Q5 b q w) (h:b≠B):Q5 b q (((((w.setCell ⟨B,0,none⟩ v0).setCell ⟨B,1,none⟩ v1).setCell ⟨B,2,none⟩ v2).setCell ⟨B,3,none⟩ v3).setCell ⟨B,4,none⟩ v4):=
 ⟨(lE h).trans m.1,(lE h).trans m.2.1,(lE h).trans m.2.2.1,(lE h).trans m.2.2.2.1,(lE h).trans m.2.2.2.2⟩
def dH (t l:T):T:=⟨t.c*jT l.c%101,(M.over t.m l.m).1⟩
theorem sP (w:World) (o:Int) (t:T) (b:Option Addr) (m cb:Nat) (g:Nat→T) (hb:Rd w b m cb g) (hm:0<m) (hg:∀i,i<m→(g i).m.ok=true) (t1:0≤t.c) (t2:t.c≤100):Calls Try.prog 72 #[.int .i64 o,.agg #[.int .i64 t.c,.int .i64 t.m.x,.int .i64 t.m.y,.int .i64 t.m.d,.int .i64 t.m.e],.slice b m cb] w fun r w'=>r= .returned (.agg #[.int .i64 (dH t (g (aP o g m))).c,.int .i64 (dH t (g (aP o g m))).m.x,.int .i64 (dH t (g (aP o g m))).m.y,.int .i64 (dH t (g (aP o g m))).m.d,.int .i64 (dH t (g (aP o g m))).m.e])∧Below w.heap.size w w':=by
 have hmb:(m:Int)≤140737488351232:=by have:=hb.2.1;omega
 have HG:=aA hb;have HM:=aA hg
 have HB0:=aA (aS w (.cells #[.int .i64 t.c,.int .i64 t.m.x,.int .i64 t.m.y,.int .i64 t.m.d,.int .i64 t.m.e] 33) (.cells #[.int .i64 0,.int .i64 0,.int .i64 0,.int .i64 0,.int .i64 0] 33));have c1:=fun(W:World) (h:Rd W b m cb g)=>kU W o b m cb g h hm HM.out
 clear hb hg;generalize g (aP o g m)=l at *;obtain⟨q,bv,hq⟩:∃q bv,M.over ⟨t.m.x,t.m.y,t.m.d,t.m.e⟩ ⟨l.m.x,l.m.y,l.m.d,l.m.e⟩=(q,bv):=⟨_,_,rfl⟩
 have e1:dH t l=⟨t.c*jT l.c%101,q⟩:=by unfold dH;rw[show M.over t.m l.m=(q,bv)from hq]
 rw[e1];clear e1;obtain⟨f1,f2⟩:=mN l.c;obtain⟨y,hy⟩:∃y,jT l.c=y:=⟨_,rfl⟩
 have c3:=fun W=>LU l.c W;rw[hy]at f1 f2 c3⊢;clear hy;have p1:0≤t.c*y:=Int.mul_nonneg t1 f1
 have p2:t.c*y≤10000:=by have h1:t.c*y≤100*y:=Int.mul_le_mul_of_nonneg_right t2 f1;omega
 have p3:IntKind.i64.wrap (t.c*y)=t.c*y:=by rw[IntKind.wrap_i64];omega
 have p4:(t.c*y).tmod 101=t.c*y%101:=Int.tmod_eq_emod_of_nonneg p1;go_enter Try.func72,Try.ntmps72;go_wp2_with fail;refine(c1 _ (HG.out.below HB0.out)).mono ?_;rintro r w1 ⟨rfl,hb1⟩;have HB1:=aA (aB HB0.out hb1)
 have oA:=((C5.box w 33 t).below (aC (w.alloc (.cells #[.int .i64 t.c,.int .i64 t.m.x,.int .i64 t.m.y,.int .i64 t.m.d,.int .i64 t.m.e] 33)) (.cells #[.int .i64 0,.int .i64 0,.int .i64 0,.int .i64 0,.int .i64 0] 33))).below hb1;have oB:=(bI.box (w.alloc (.cells #[.int .i64 t.c,.int .i64 t.m.x,.int .i64 t.m.y,.int .i64 t.m.d,.int .i64 t.m.e] 33)) 33 bQ).below hb1
 rw[World.size_alloc]at oB;have hz1:w.heap.size+1<w1.heap.size:=by have:=hb1.size;simp at this;omega
 have OA:=aA oA;have OB:=aA oB
 have HB2:=aA (HB1.out.alloc HB1.out.size (.cells #[.int .i64 l.c,.int .i64 l.m.x,.int .i64 l.m.y,.int .i64 l.m.d,.int .i64 l.m.e] 33));obtain⟨r0,r1,r2,r3,r4⟩:=oA;clear hb1 c1 oB;have hz0:w.heap.size<w1.heap.size:=by omega
 go_wp2_with fail;clear r0 r1 r2 r3 r4;refine(vJ hq _).mono ?_;rintro r w2 ⟨rfl,hb2⟩;have HB3:=aA (aB HB2.out hb2)
 have oA2:=(OA.out.below (aC w1 (.cells #[.int .i64 l.c,.int .i64 l.m.x,.int .i64 l.m.y,.int .i64 l.m.d,.int .i64 l.m.e] 33))).below hb2;obtain⟨⟨e0,e1,e2,e3,e4⟩,ez⟩:=(OB.out.below (aC w1 (.cells #[.int .i64 l.c,.int .i64 l.m.x,.int .i64 l.m.y,.int .i64 l.m.d,.int .i64 l.m.e] 33))).below hb2;have oL:=(C5.box w1 33 l).below hb2
 have hz2:w1.heap.size<w2.heap.size:=by have:=hb2.size;simp at this;omega
 have hz3:w.heap.size+1<w2.heap.size:=by omega
 have hz4:w.heap.size<w2.heap.size:=by omega
 have k0:w2.cell? ⟨w.heap.size,0,none⟩=some (.int .i64 t.c):=oA2.1;have k1:w2.cell? ⟨w1.heap.size,0,none⟩=some (.int .i64 l.c):=oL.1
 have HB4:=aA (HB3.out.alloc HB3.out.size (.cells #[.int .i64 q.x,.int .i64 q.y,.int .i64 q.d,.int .i64 q.e] 31));have hS:L6 w.heap.size w1.heap.size w2.heap.size t.c l.c q (w2.alloc (.cells #[.int .i64 q.x,.int .i64 q.y,.int .i64 q.d,.int .i64 q.e] 31)):=by have h4:=M4.box w2 31 q.x q.y q.d q.e;exact⟨(LE _ _ _ hz4).trans k0,(LE _ _ _ hz2).trans k1,h4.1,h4.2.1,h4.2.2.1,h4.2.2.2⟩
 have s0:=(LE w2 (.cells #[.int .i64 q.x,.int .i64 q.y,.int .i64 q.d,.int .i64 q.e] 31) ⟨w.heap.size+1,0,none⟩ hz3).trans e0;have s1:=(LE w2 (.cells #[.int .i64 q.x,.int .i64 q.y,.int .i64 q.d,.int .i64 q.e] 31) ⟨w.heap.size+1,1,none⟩ hz3).trans e1
 have s2:=(LE w2 (.cells #[.int .i64 q.x,.int .i64 q.y,.int .i64 q.d,.int .i64 q.e] 31) ⟨w.heap.size+1,2,none⟩ hz3).trans e2;have s3:=(LE w2 (.cells #[.int .i64 q.x,.int .i64 q.y,.int .i64 q.d,.int .i64 q.e] 31) ⟨w.heap.size+1,3,none⟩ hz3).trans e3
 have s4:=(LE w2 (.cells #[.int .i64 q.x,.int .i64 q.y,.int .i64 q.d,.int .i64 q.e] 31) ⟨w.heap.size+1,4,none⟩ hz3).trans e4;have sz:=fun i=>((aC w2 (.cells #[.int .i64 q.x,.int .i64 q.y,.int .i64 q.d,.int .i64 q.e] 31)).frozen (p:=⟨w.heap.size+1,i,none⟩) hz3).trans (ez i)
 clear hb2 oA2 oL OA OB hq;go_wp2_with fail;clear e0 e1 e2 e3 e4 ez;generalize(w2.alloc (.cells #[.int .i64 q.x,.int .i64 q.y,.int .i64 q.d,.int .i64 q.e] 31))=W at *;have hSd:L6 w.heap.size w1.heap.size w2.heap.size t.c l.c q W.drew:=hS
 have hn1:w.heap.size≠w.heap.size+1:=by omega
 have hn2:w1.heap.size≠w.heap.size+1:=by omega
 have hn3:w2.heap.size≠w.heap.size+1:=by omega
 go_region_held3 (fun u=>u.cell? ⟨w.heap.size,0,none⟩=some (.int .i64 t.c)∧u.cell? ⟨w1.heap.size,0,none⟩=some (.int .i64 l.c)∧u.cell? ⟨w2.heap.size,0,none⟩=some (.int .i64 q.x)∧u.cell? ⟨w2.heap.size,1,none⟩=some (.int .i64 q.y)∧u.cell? ⟨w2.heap.size,2,none⟩=some (.int .i64 q.d)∧u.cell? ⟨w2.heap.size,3,none⟩=some (.int .i64 q.e)) (first|with_reducible exact hSd|with_reducible exact BU hS hn1 hn2 hn3) (first|(go_at_call 103;refine(c3 _).mono ?_;rintro r w7 ⟨rfl,hw7⟩;obtain rfl:=hw7.symm;clear hw7))
 go_wp2;refine cN (v:=.agg #[.int .i64 (t.c*y%101),.int .i64 q.x,.int .i64 q.y,.int .i64 q.d,.int .i64 q.e]) (by simp[results,Try.results72,go_sem, *]) rfl ⟨rfl,?_⟩;exact(bU HB4.out (by omega) _ _ _ _ _).drew
theorem vO {l:T} {b:M}:dH ⟨1,b⟩ l=tP l b:=by
 unfold dH tP;have:=mN l.c
 congr 1;show 1*jT l.c%101=jT l.c
 omega
theorem wD (w:World) (o:Int) (a:Option Addr) (n ca:Nat) (f:Nat→T) (b:Option Addr) (m cb:Nat) (g:Nat→T) (ha:Rd w a n ca f) (hb:Rd w b m cb g) (ho':o<1∨(1≤o∧3<o)):Calls Try.prog 33 #[.int .i64 o,.slice a n ca,.slice b m cb] w fun r w'=>r= .returned (.tuple #[.agg #[.int .i64 0,.int .i64 0,.int .i64 0,.int .i64 0,.int .i64 0],.agg #[.int .i64 0,.int .i64 0,.int .i64 0,.int .i64 0,.int .i64 0],.bool false])∧Below w.heap.size w w':=by
 have HA:=aA ha;have HB:=aA hb
 have hla:(n:Int)≤140737488351232:=by have:=ha.2.1;omega
 have hlb:(m:Int)≤140737488351232:=by have:=hb.2.1;omega
 have HB0:=aA (aS w (.cells #[.int .i64 0,.int .i64 0,.int .i64 0,.int .i64 0,.int .i64 0] 33) (.cells #[.int .i64 0,.int .i64 0,.int .i64 0,.int .i64 0,.int .i64 0] 33));have oA0:=(bI.box w 33 bQ).below (aC (w.alloc (.cells #[.int .i64 0,.int .i64 0,.int .i64 0,.int .i64 0,.int .i64 0] 33)) (.cells #[.int .i64 0,.int .i64 0,.int .i64 0,.int .i64 0,.int .i64 0] 33))
 have oB0:=bI.box (w.alloc (.cells #[.int .i64 0,.int .i64 0,.int .i64 0,.int .i64 0,.int .i64 0] 33)) 33 bQ;rw[World.size_alloc]at oB0;have OA:=aA oA0
 have OB:=aA oB0;clear ha hb oA0 oB0;go_enter Try.func33,Try.ntmps33;go_wp2_with (go_at_call 51;refine(bS _ _ _ _ ho').mono ?_;rintro r w' ⟨rfl,hw'⟩;obtain rfl:=hw'.symm;clear hw');refine cN (v:=.tuple #[.agg #[.int .i64 0,.int .i64 0,.int .i64 0,.int .i64 0,.int .i64 0],.agg #[.int .i64 0,.int .i64 0,.int .i64 0,.int .i64 0,.int .i64 0],.bool false]) (by simp[results,Try.results33,go_sem, *]) rfl ⟨rfl,HB0.out⟩
theorem vZ (w:World) (o:Int) (a:Option Addr) (n ca:Nat) (f:Nat→T) (b:Option Addr) (m cb:Nat) (g:Nat→T) (ha:Rd w a n ca f) (hb:Rd w b m cb g) (o1:1≤o) (o2:o≤3) (hp:aL n f=false):Calls Try.prog 33 #[.int .i64 o,.slice a n ca,.slice b m cb] w fun r w'=>r= .returned (.tuple #[.agg #[.int .i64 0,.int .i64 0,.int .i64 0,.int .i64 0,.int .i64 0],.agg #[.int .i64 0,.int .i64 0,.int .i64 0,.int .i64 0,.int .i64 0],.bool false])∧Below w.heap.size w w':=by
 have HA:=aA ha;have HB:=aA hb
 have hla:(n:Int)≤140737488351232:=by have:=ha.2.1;omega
 have hlb:(m:Int)≤140737488351232:=by have:=hb.2.1;omega
 have HB0:=aA (aS w (.cells #[.int .i64 0,.int .i64 0,.int .i64 0,.int .i64 0,.int .i64 0] 33) (.cells #[.int .i64 0,.int .i64 0,.int .i64 0,.int .i64 0,.int .i64 0] 33));have oA0:=(bI.box w 33 bQ).below (aC (w.alloc (.cells #[.int .i64 0,.int .i64 0,.int .i64 0,.int .i64 0,.int .i64 0] 33)) (.cells #[.int .i64 0,.int .i64 0,.int .i64 0,.int .i64 0,.int .i64 0] 33))
 have oB0:=bI.box (w.alloc (.cells #[.int .i64 0,.int .i64 0,.int .i64 0,.int .i64 0,.int .i64 0] 33)) 33 bQ;rw[World.size_alloc]at oB0;have OA:=aA oA0
 have OB:=aA oB0;clear ha hb oA0 oB0;go_enter Try.func33,Try.ntmps33;go_wp2_with (go_at_call 51;refine(bF _ _ _ _ o1 o2).mono ?_;rintro r w' ⟨rfl,hw'⟩;obtain rfl:=hw'.symm;clear hw');refine(iA _ _ _ _ f (HA.out.below HB0.out)).mono ?_;rw[hp];rintro r w1 ⟨rfl,hb1⟩;have HB1:=aA (aB HB0.out hb1)
 have OA1:=aA (OA.out.below hb1);have OB1:=aA (OB.out.below hb1)
 clear hb1 OA OB;obtain⟨⟨e0,e1,e2,e3,e4⟩,ez⟩:=OA1.out;obtain⟨⟨g0,g1,g2,g3,g4⟩,gz⟩:=OB1.out;have hl2:w.heap.size+1<w1.heap.size:=fG w1 _ g0
 have hl1:w.heap.size<w1.heap.size:=by omega
 go_wp2;refine cN (v:=.tuple #[.agg #[.int .i64 0,.int .i64 0,.int .i64 0,.int .i64 0,.int .i64 0],.agg #[.int .i64 0,.int .i64 0,.int .i64 0,.int .i64 0,.int .i64 0],.bool false]) (by simp[results,Try.results33,go_sem, *]) rfl ⟨rfl,?_⟩;with_reducible exact bU (bU HB1.out (by omega) _ _ _ _ _) (by omega) _ _ _ _ _
theorem wA (w:World) (o:Int) (a:Option Addr) (n ca:Nat) (f:Nat→T) (b:Option Addr) (m cb:Nat) (g:Nat→T) (ha:Rd w a n ca f) (hb:Rd w b m cb g) (o1:1≤o) (o2:o≤3) (hp:aL n f=true) (hq:aL m g=false):Calls Try.prog 33 #[.int .i64 o,.slice a n ca,.slice b m cb] w fun r w'=>r= .returned (.tuple #[.agg #[.int .i64 0,.int .i64 0,.int .i64 0,.int .i64 0,.int .i64 0],.agg #[.int .i64 0,.int .i64 0,.int .i64 0,.int .i64 0,.int .i64 0],.bool false])∧Below w.heap.size w w':=by
 have HA:=aA ha;have HB:=aA hb
 have hla:(n:Int)≤140737488351232:=by have:=ha.2.1;omega
 have hlb:(m:Int)≤140737488351232:=by have:=hb.2.1;omega
 have HB0:=aA (aS w (.cells #[.int .i64 0,.int .i64 0,.int .i64 0,.int .i64 0,.int .i64 0] 33) (.cells #[.int .i64 0,.int .i64 0,.int .i64 0,.int .i64 0,.int .i64 0] 33));have oA0:=(bI.box w 33 bQ).below (aC (w.alloc (.cells #[.int .i64 0,.int .i64 0,.int .i64 0,.int .i64 0,.int .i64 0] 33)) (.cells #[.int .i64 0,.int .i64 0,.int .i64 0,.int .i64 0,.int .i64 0] 33))
 have oB0:=bI.box (w.alloc (.cells #[.int .i64 0,.int .i64 0,.int .i64 0,.int .i64 0,.int .i64 0] 33)) 33 bQ;rw[World.size_alloc]at oB0;have OA:=aA oA0
 have OB:=aA oB0;clear ha hb oA0 oB0;go_enter Try.func33,Try.ntmps33;go_wp2_with (go_at_call 51;refine(bF _ _ _ _ o1 o2).mono ?_;rintro r w' ⟨rfl,hw'⟩;obtain rfl:=hw'.symm;clear hw');refine(iA _ _ _ _ f (HA.out.below HB0.out)).mono ?_;rw[hp];rintro r w1 ⟨rfl,hb1⟩;have HB1:=aA (aB HB0.out hb1)
 have OA1:=aA (OA.out.below hb1);have OB1:=aA (OB.out.below hb1)
 clear hb1 OA OB;go_wp2_with fail;refine(iA _ _ _ _ g (HB.out.below HB1.out)).mono ?_;rw[hq];rintro r w2 ⟨rfl,hb1⟩;have HB2:=aA (aB HB1.out hb1)
 have OA11:=aA (OA1.out.below hb1);have OB11:=aA (OB1.out.below hb1)
 clear hb1 OA1 OB1;obtain⟨⟨e0,e1,e2,e3,e4⟩,ez⟩:=OA11.out;obtain⟨⟨g0,g1,g2,g3,g4⟩,gz⟩:=OB11.out;have hl2:w.heap.size+1<w2.heap.size:=fG w2 _ g0
 have hl1:w.heap.size<w2.heap.size:=by omega
 go_wp2;refine cN (v:=.tuple #[.agg #[.int .i64 0,.int .i64 0,.int .i64 0,.int .i64 0,.int .i64 0],.agg #[.int .i64 0,.int .i64 0,.int .i64 0,.int .i64 0,.int .i64 0],.bool false]) (by simp[results,Try.results33,go_sem, *]) rfl ⟨rfl,?_⟩;with_reducible exact bU (bU HB2.out (by omega) _ _ _ _ _) (by omega) _ _ _ _ _
theorem wC (w:World) (o:Int) (a:Option Addr) (n ca:Nat) (f:Nat→T) (b:Option Addr) (m cb:Nat) (g:Nat→T) (ha:Rd w a n ca f) (hb:Rd w b m cb g) (o1:1≤o) (o2:o≤3) (hp:aL n f=true) (hq:aL m g=true) (h0:n=0):Calls Try.prog 33 #[.int .i64 o,.slice a n ca,.slice b m cb] w fun r w'=>r= .returned (.tuple #[.agg #[.int .i64 0,.int .i64 0,.int .i64 0,.int .i64 0,.int .i64 0],.agg #[.int .i64 0,.int .i64 0,.int .i64 0,.int .i64 0,.int .i64 0],.bool false])∧Below w.heap.size w w':=by
 have HA:=aA ha;have HB:=aA hb
 have hla:(n:Int)≤140737488351232:=by have:=ha.2.1;omega
 have hlb:(m:Int)≤140737488351232:=by have:=hb.2.1;omega
 have HB0:=aA (aS w (.cells #[.int .i64 0,.int .i64 0,.int .i64 0,.int .i64 0,.int .i64 0] 33) (.cells #[.int .i64 0,.int .i64 0,.int .i64 0,.int .i64 0,.int .i64 0] 33));have oA0:=(bI.box w 33 bQ).below (aC (w.alloc (.cells #[.int .i64 0,.int .i64 0,.int .i64 0,.int .i64 0,.int .i64 0] 33)) (.cells #[.int .i64 0,.int .i64 0,.int .i64 0,.int .i64 0,.int .i64 0] 33))
 have oB0:=bI.box (w.alloc (.cells #[.int .i64 0,.int .i64 0,.int .i64 0,.int .i64 0,.int .i64 0] 33)) 33 bQ;rw[World.size_alloc]at oB0;have OA:=aA oA0
 have OB:=aA oB0;clear ha hb oA0 oB0;have hne:((n:Int)==0)=true:=by simp;omega
 clear h0;go_enter Try.func33,Try.ntmps33;go_wp2_with (go_at_call 51;refine(bF _ _ _ _ o1 o2).mono ?_;rintro r w' ⟨rfl,hw'⟩;obtain rfl:=hw'.symm;clear hw');refine(iA _ _ _ _ f (HA.out.below HB0.out)).mono ?_;rw[hp];rintro r w1 ⟨rfl,hb1⟩;have HB1:=aA (aB HB0.out hb1)
 have OA1:=aA (OA.out.below hb1);have OB1:=aA (OB.out.below hb1)
 clear hb1 OA OB;go_wp2_with fail;refine(iA _ _ _ _ g (HB.out.below HB1.out)).mono ?_;rw[hq];rintro r w2 ⟨rfl,hb1⟩;have HB2:=aA (aB HB1.out hb1)
 have OA11:=aA (OA1.out.below hb1);have OB11:=aA (OB1.out.below hb1)
 clear hb1 OA1 OB1;obtain⟨⟨e0,e1,e2,e3,e4⟩,ez⟩:=OA11.out;obtain⟨⟨g0,g1,g2,g3,g4⟩,gz⟩:=OB11.out;have hl2:w.heap.size+1<w2.heap.size:=fG w2 _ g0
 have hl1:w.heap.size<w2.heap.size:=by omega
 go_wp2;refine cN (v:=.tuple #[.agg #[.int .i64 0,.int .i64 0,.int .i64 0,.int .i64 0,.int .i64 0],.agg #[.int .i64 0,.int .i64 0,.int .i64 0,.int .i64 0,.int .i64 0],.bool false]) (by simp[results,Try.results33,go_sem, *]) rfl ⟨rfl,?_⟩;with_reducible exact bU (bU HB2.out (by omega) _ _ _ _ _) (by omega) _ _ _ _ _
theorem wB (w:World) (o:Int) (a:Option Addr) (n ca:Nat) (f:Nat→T) (b:Option Addr) (m cb:Nat) (g:Nat→T) (ha:Rd w a n ca f) (hb:Rd w b m cb g) (o1:1≤o) (o2:o≤3) (hp:aL n f=true) (hq:aL m g=true) (h0:n≠0) (h1:m=0):Calls Try.prog 33 #[.int .i64 o,.slice a n ca,.slice b m cb] w fun r w'=>r= .returned (.tuple #[.agg #[.int .i64 0,.int .i64 0,.int .i64 0,.int .i64 0,.int .i64 0],.agg #[.int .i64 0,.int .i64 0,.int .i64 0,.int .i64 0,.int .i64 0],.bool false])∧Below w.heap.size w w':=by
 have HA:=aA ha;have HB:=aA hb
 have hla:(n:Int)≤140737488351232:=by have:=ha.2.1;omega
 have hlb:(m:Int)≤140737488351232:=by have:=hb.2.1;omega
 have HB0:=aA (aS w (.cells #[.int .i64 0,.int .i64 0,.int .i64 0,.int .i64 0,.int .i64 0] 33) (.cells #[.int .i64 0,.int .i64 0,.int .i64 0,.int .i64 0,.int .i64 0] 33));have oA0:=(bI.box w 33 bQ).below (aC (w.alloc (.cells #[.int .i64 0,.int .i64 0,.int .i64 0,.int .i64 0,.int .i64 0] 33)) (.cells #[.int .i64 0,.int .i64 0,.int .i64 0,.int .i64 0,.int .i64 0] 33))
 have oB0:=bI.box (w.alloc (.cells #[.int .i64 0,.int .i64 0,.int .i64 0,.int .i64 0,.int .i64 0] 33)) 33 bQ;rw[World.size_alloc]at oB0;have OA:=aA oA0
 have OB:=aA oB0;clear ha hb oA0 oB0;have hne:((n:Int)==0)=false:=by simp;omega
 have hme:((m:Int)==0)=true:=by simp;omega
 clear h0 h1;go_enter Try.func33,Try.ntmps33;go_wp2_with (go_at_call 51;refine(bF _ _ _ _ o1 o2).mono ?_;rintro r w' ⟨rfl,hw'⟩;obtain rfl:=hw'.symm;clear hw');refine(iA _ _ _ _ f (HA.out.below HB0.out)).mono ?_;rw[hp];rintro r w1 ⟨rfl,hb1⟩;have HB1:=aA (aB HB0.out hb1)
 have OA1:=aA (OA.out.below hb1);have OB1:=aA (OB.out.below hb1)
 clear hb1 OA OB;go_wp2_with fail;refine(iA _ _ _ _ g (HB.out.below HB1.out)).mono ?_;rw[hq];rintro r w2 ⟨rfl,hb1⟩;have HB2:=aA (aB HB1.out hb1)
 have OA11:=aA (OA1.out.below hb1);have OB11:=aA (OB1.out.below hb1)
 clear hb1 OA1 OB1;obtain⟨⟨e0,e1,e2,e3,e4⟩,ez⟩:=OA11.out;obtain⟨⟨g0,g1,g2,g3,g4⟩,gz⟩:=OB11.out;have hl2:w.heap.size+1<w2.heap.size:=fG w2 _ g0
 have hl1:w.heap.size<w2.heap.size:=by omega
 go_wp2;refine cN (v:=.tuple #[.agg #[.int .i64 0,.int .i64 0,.int .i64 0,.int .i64 0,.int .i64 0],.agg #[.int .i64 0,.int .i64 0,.int .i64 0,.int .i64 0,.int .i64 0],.bool false]) (by simp[results,Try.results33,go_sem, *]) rfl ⟨rfl,?_⟩;with_reducible exact bU (bU HB2.out (by omega) _ _ _ _ _) (by omega) _ _ _ _ _
theorem wE (w:World) (o:Int) (a:Option Addr) (n ca:Nat) (f:Nat→T) (b:Option Addr) (m cb:Nat) (g:Nat→T) (ha:Rd w a n ca f) (hb:Rd w b m cb g) (o1:1≤o) (o2:o≤3) (hp:aL n f=true) (hq:aL m g=true) (pn:0<n) (pm:0<m):Calls Try.prog 33 #[.int .i64 o,.slice a n ca,.slice b m cb] w fun r w'=>r= .returned (.tuple #[.agg #[.int .i64 (cV o n f m g).c,.int .i64 (cV o n f m g).m.x,.int .i64 (cV o n f m g).m.y,.int .i64 (cV o n f m g).m.d,.int .i64 (cV o n f m g).m.e],.agg #[.int .i64 (cW o n f m g).c,.int .i64 (cW o n f m g).m.x,.int .i64 (cW o n f m g).m.y,.int .i64 (cW o n f m g).m.d,.int .i64 (cW o n f m g).m.e],.bool (dC o n f m g)])∧Below w.heap.size w w':=by
 have HA:=aA ha;have HB:=aA hb
 have hla:(n:Int)≤140737488351232:=by have:=ha.2.1;omega
 have hlb:(m:Int)≤140737488351232:=by have:=hb.2.1;omega
 have HB0:=aA (aS w (.cells #[.int .i64 0,.int .i64 0,.int .i64 0,.int .i64 0,.int .i64 0] 33) (.cells #[.int .i64 0,.int .i64 0,.int .i64 0,.int .i64 0,.int .i64 0] 33));have oA0:=(bI.box w 33 bQ).below (aC (w.alloc (.cells #[.int .i64 0,.int .i64 0,.int .i64 0,.int .i64 0,.int .i64 0] 33)) (.cells #[.int .i64 0,.int .i64 0,.int .i64 0,.int .i64 0,.int .i64 0] 33))
 have oB0:=bI.box (w.alloc (.cells #[.int .i64 0,.int .i64 0,.int .i64 0,.int .i64 0,.int .i64 0] 33)) 33 bQ;rw[World.size_alloc]at oB0;have OA:=aA oA0
 have OB:=aA oB0;clear ha hb oA0 oB0;have hk1:aX o n f=true:=by unfold aX;rw[hp,decide_eq_true (show 1≤o∧o≤3 from⟨o1,o2⟩),decide_eq_true pn];rfl
 have hk2:aX o m g=true:=by unfold aX;rw[hq,decide_eq_true (show 1≤o∧o≤3 from⟨o1,o2⟩),decide_eq_true pm];rfl
 have hk:dC o n f m g=true:=by unfold dC;rw[hk1,hk2];rfl
 have eU:cV o n f m g=dH ⟨1,M.both (f (aP o f n)).m (g (aP o g m)).m⟩ (f (aP o f n)):=by rw[vO];unfold cV iZ;rw[if_pos hk,cS hk1,cS hk2]
 have eV:cW o n f m g=dH ⟨1,M.both (f (aP o f n)).m (g (aP o g m)).m⟩ (g (aP o g m)):=by rw[vO];unfold cW iZ;rw[if_pos hk,cS hk1,cS hk2]
 rw[eU,eV,hk];have hne:((n:Int)==0)=false:=by simp;omega
 have hme:((m:Int)==0)=false:=by simp;omega
 have HF:=aA (mX hp);have HG:=aA (mX hq)
 have c1:=fun(W:World) (h:Rd W a n ca f)=>kU W o a n ca f h pn HF.out;have c2:=fun(W:World) (h:Rd W b m cb g)=>kU W o b m cb g h pm HG.out
 have c3:=fun(W:World) (q:M) (h:Rd W a n ca f)=>sP W o ⟨1,q⟩ a n ca f h pn HF.out (show(0:Int)≤1 by decide) (show(1:Int)≤100 by decide);have c4:=fun(W:World) (q:M) (h:Rd W b m cb g)=>sP W o ⟨1,q⟩ b m cb g h pm HG.out (show(0:Int)≤1 by decide) (show(1:Int)≤100 by decide)
 clear eU eV hk hk1 hk2 pn pm;generalize f (aP o f n)=s at *;generalize g (aP o g m)=t at *;obtain⟨q,hqq⟩:∃q,M.both ⟨s.m.x,s.m.y,s.m.d,s.m.e⟩ ⟨t.m.x,t.m.y,t.m.d,t.m.e⟩=q:=⟨_,rfl⟩
 rw[show M.both s.m t.m=q from hqq];have d3:=fun W=>c3 W q
 have d4:=fun W=>c4 W q;clear c3 c4;generalize dH ⟨1,q⟩ s=U at *;generalize dH ⟨1,q⟩ t=V at *;dsimp only at d3 d4;have hfs:∀W:World,(Instr.field 33 (Value.agg #[.int .i64 s.c,.int .i64 s.m.x,.int .i64 s.m.y,.int .i64 s.m.d,.int .i64 s.m.e]) 1).run Try.prog W= .ok (Value.agg #[.int .i64 s.m.x,.int .i64 s.m.y,.int .i64 s.m.d,.int .i64 s.m.e]) W:=fun W=>by kernel_rfl
 have hft:∀W:World,(Instr.field 33 (Value.agg #[.int .i64 t.c,.int .i64 t.m.x,.int .i64 t.m.y,.int .i64 t.m.d,.int .i64 t.m.e]) 1).run Try.prog W= .ok (Value.agg #[.int .i64 t.m.x,.int .i64 t.m.y,.int .i64 t.m.d,.int .i64 t.m.e]) W:=fun W=>by kernel_rfl
 go_enter Try.func33,Try.ntmps33;go_wp2_with (go_at_call 51;refine(bF _ _ _ _ o1 o2).mono ?_;rintro r w' ⟨rfl,hw'⟩;obtain rfl:=hw'.symm;clear hw');refine(iA _ _ _ _ f (HA.out.below HB0.out)).mono ?_;rw[hp];rintro r w1 ⟨rfl,hb1⟩;have HB1:=aA (aB HB0.out hb1)
 have OA1:=aA (OA.out.below hb1);have OB1:=aA (OB.out.below hb1)
 clear hb1 OA OB;go_wp2_with fail;refine(iA _ _ _ _ g (HB.out.below HB1.out)).mono ?_;rw[hq];rintro r w2 ⟨rfl,hb1⟩;have HB2:=aA (aB HB1.out hb1)
 have OA11:=aA (OA1.out.below hb1);have OB11:=aA (OB1.out.below hb1)
 clear hb1 OA1 OB1;go_wp2_with fail;refine(c1 _ (HA.out.below HB2.out)).mono ?_;rintro r w3 ⟨rfl,hb3⟩;have HB3:=aA (aB HB2.out hb3)
 have OA3:=aA (OA11.out.below hb3);have OB3:=aA (OB11.out.below hb3)
 clear hb3;go_wp2_with fail;refine(c2 _ (HB.out.below HB3.out)).mono ?_;rintro r w4 ⟨rfl,hb4⟩;have HB4:=aA (aB HB3.out hb4)
 have OA4:=aA (OA3.out.below hb4);have OB4:=aA (OB3.out.below hb4)
 clear hb4;go_wp2_with fail;refine(vG hqq _).mono ?_;rintro r w5 ⟨rfl,hb5⟩;have HB5:=aA (aB HB4.out hb5)
 have OA5:=aA (OA4.out.below hb5);have OB5:=aA (OB4.out.below hb5)
 have SZ5:Hid (w.heap.size+1<w5.heap.size):=fG w5 _ OB5.out.1.1;clear hb5 hqq OA11 OB11 OA3 OB3 OA4 OB4 HB0 HB1 HB2 HB3 HB4 c1 c2 hp hq;have tC:=C5.box w5 33 ⟨1,q⟩
 have OA6:=aA (OA5.out.below (aC w5 (.cells #[.int .i64 1,.int .i64 q.x,.int .i64 q.y,.int .i64 q.d,.int .i64 q.e] 33)));have OB6:=aA (OB5.out.below (aC w5 (.cells #[.int .i64 1,.int .i64 q.x,.int .i64 q.y,.int .i64 q.d,.int .i64 q.e] 33)))
 have HB6:=aA (HB5.out.alloc HB5.out.size (.cells #[.int .i64 1,.int .i64 q.x,.int .i64 q.y,.int .i64 q.d,.int .i64 q.e] 33));go_wp2_with fail;clear OA5 OB5 HB5;generalize(w5.alloc (.cells #[.int .i64 1,.int .i64 q.x,.int .i64 q.y,.int .i64 q.d,.int .i64 q.e] 33))=W at *;have hbx:w5.heap.size≠w.heap.size∧w5.heap.size≠w.heap.size+1:=by have:=SZ5.out;omega
 obtain⟨hn1,hn2⟩:=hbx;have HA6:=aA (HA.out.below HB6.out.drew)
 have HBb6:=aA (HB.out.below HB6.out.drew);have tCd:Q5 w5.heap.size q W.drew:=tC
 have OAd:Hid (bI W.drew w.heap.size bQ):=OA6.out;have OBd:Hid (bI W.drew (w.heap.size+1) bQ):=OB6.out
 have HBd:=aA HB6.out.drew;clear OA6 OB6
 go_region_held3 (fun u=>u.cell? ⟨w5.heap.size,0,none⟩=some (.int .i64 1)∧u.cell? ⟨w5.heap.size,1,none⟩=some (.int .i64 q.x)∧u.cell? ⟨w5.heap.size,2,none⟩=some (.int .i64 q.y)∧u.cell? ⟨w5.heap.size,3,none⟩=some (.int .i64 q.d)∧u.cell? ⟨w5.heap.size,4,none⟩=some (.int .i64 q.e)) (first|with_reducible exact tCd|with_reducible exact Q5.below tCd b1|with_reducible exact Q5.below (Q5.below tCd b1) b2|with_reducible exact Q5.far (by assumption) hn1|with_reducible exact Q5.far (by assumption) hn2) (first|(go_at_call 72;(with_reducible refine(d3 _ HA6.out).mono ?_);rintro r w6 ⟨rfl,b1⟩)|(go_at_call 72;(with_reducible refine(d4 _ (HBb6.out.below b1)).mono ?_);rintro r w7 ⟨rfl,b2⟩;obtain⟨⟨e0,e1,e2,e3,e4⟩,ez⟩:=(OAd.out.below b1).below b2;obtain⟨⟨g0,g1,g2,g3,g4⟩,gz⟩:=(OBd.out.below b1).below b2))
 have HB7:=aA (aB (aB HBd.out b1) b2);go_wp2;refine cN (v:=.tuple #[.agg #[.int .i64 U.c,.int .i64 U.m.x,.int .i64 U.m.y,.int .i64 U.m.d,.int .i64 U.m.e],.agg #[.int .i64 V.c,.int .i64 V.m.x,.int .i64 V.m.y,.int .i64 V.m.d,.int .i64 V.m.e],.bool true]) (by simp[results,Try.results33,go_sem, *]) rfl ⟨rfl,?_⟩;with_reducible exact bU (bU HB7.out (by omega) _ _ _ _ _) (by omega) _ _ _ _ _
theorem rQ (w:World) (o:Int) (a:Option Addr) (n ca:Nat) (f:Nat→T) (b:Option Addr) (m cb:Nat) (g:Nat→T) (ha:Rd w a n ca f) (hb:Rd w b m cb g):Calls Try.prog 33 #[.int .i64 o,.slice a n ca,.slice b m cb] w fun r w'=>r= .returned (.tuple #[.agg #[.int .i64 (cV o n f m g).c,.int .i64 (cV o n f m g).m.x,.int .i64 (cV o n f m g).m.y,.int .i64 (cV o n f m g).m.d,.int .i64 (cV o n f m g).m.e],.agg #[.int .i64 (cW o n f m g).c,.int .i64 (cW o n f m g).m.x,.int .i64 (cW o n f m g).m.y,.int .i64 (cW o n f m g).m.d,.int .i64 (cW o n f m g).m.e],.bool (dC o n f m g)])∧Below w.heap.size w w':=by
 have key:dC o n f m g=false→(Calls Try.prog 33 #[.int .i64 o,.slice a n ca,.slice b m cb] w fun r w'=>r= .returned (.tuple #[.agg #[.int .i64 0,.int .i64 0,.int .i64 0,.int .i64 0,.int .i64 0],.agg #[.int .i64 0,.int .i64 0,.int .i64 0,.int .i64 0,.int .i64 0],.bool false])∧Below w.heap.size w w')→Calls Try.prog 33 #[.int .i64 o,.slice a n ca,.slice b m cb] w fun r w'=>r= .returned (.tuple #[.agg #[.int .i64 (cV o n f m g).c,.int .i64 (cV o n f m g).m.x,.int .i64 (cV o n f m g).m.y,.int .i64 (cV o n f m g).m.d,.int .i64 (cV o n f m g).m.e],.agg #[.int .i64 (cW o n f m g).c,.int .i64 (cW o n f m g).m.x,.int .i64 (cW o n f m g).m.y,.int .i64 (cW o n f m g).m.d,.int .i64 (cW o n f m g).m.e],.bool (dC o n f m g)])∧Below w.heap.size w w':=fun hk h=>by
  have eU:cV o n f m g=bQ:=if_neg (by rw[hk];decide);have eV:cW o n f m g=bQ:=if_neg (by rw[hk];decide)
  rw[eU,eV,hk];exact h
 by_cases ho:1≤o∧o≤3
 ·obtain⟨o1,o2⟩:=ho;cases hp:aL n f
  ·exact key (by unfold dC aX;simp[hp]) (vZ w o a n ca f b m cb g ha hb o1 o2 hp)
  ·cases hq:aL m g
   ·exact key (by unfold dC aX;simp[hq]) (wA w o a n ca f b m cb g ha hb o1 o2 hp hq)
   ·by_cases hn0:n=0
    ·exact key (by unfold dC aX;simp[hn0]) (wC w o a n ca f b m cb g ha hb o1 o2 hp hq hn0)
    ·by_cases hm0:m=0
     ·exact key (by unfold dC aX;simp[hm0]) (wB w o a n ca f b m cb g ha hb o1 o2 hp hq hn0 hm0)
     ·exact wE w o a n ca f b m cb g ha hb o1 o2 hp hq (by omega) (by omega)
 ·exact key (by unfold dC aX;simp[ho]) (wD w o a n ca f b m cb g ha hb (by omega))
theorem kI {o:Int} {f:Nat→T}:∀u i k n,k<n→i+u≤n→aR o f u i k<n
 |0,_,_,_,h,_=>h
 |u+1,i,k,n,h,h2=>by
  unfold aR;split
  ·exact kI u (i+1) i n (by omega) (by omega)
  ·exact kI u (i+1) k n h (by omega)
theorem nO {o:Int} {f:Nat→T} {n:Nat} (h:0<n):aP o f n<n:=kI (n-1) 1 0 n h (by omega)
theorem gM {o:Int} {n:Nat} {f:Nat→T} (h:aX o n f=true):(1≤o∧o≤3)∧aL n f=true∧0<n:=by unfold aX at h;simp only[Bool.and_eq_true,decide_eq_true_eq]at h;exact⟨h.1.1,h.1.2,h.2⟩
theorem kV {o:Int} {n:Nat} {f:Nat→T} (h:aX o n f=true):(bB o n f).m.ok=true∧1≤(bB o n f).c∧(bB o n f).c≤100:=by obtain⟨ho,hp,hn⟩:=gM h;rw[cS h];exact(fI hp).2 _ (nO hn)
theorem uR {c:Int} (h1:1≤c) (h2:c≤100):1≤jT c:=by
 have hb:=mN c;rcases Int.lt_or_le 0 (jT c)with h|h
 ·omega
 ·have h0:jT c=0:=by omega
  have:=pS (b:=c) ⟨by omega,h2⟩ (by omega);rw[h0,fF (by omega) (by omega) (by omega) h2]at this;omega
theorem oC {l:T} {b:M} (h:l.m.ok=true∧1≤l.c∧l.c≤100) (hd:l.m.dvd b=true):(tP l b).m.ok=true∧1≤(tP l b).c∧(tP l b).c≤100:=by
 refine⟨?_,uR h.2.1 h.2.2,(mN _).2⟩;show((M.over b l.m).1).ok=true
 rw[M.over,if_pos hd];obtain⟨h1,h2,h3⟩:=iR hd;have k1:=M.ok_iff.1 h1
 have k2:=M.ok_iff.1 h2;refine M.ok_iff.2 ?_;simp only[M.diff];omega
theorem nC {o:Int} {n:Nat} {f:Nat→T} {m:Nat} {g:Nat→T} (h:dC o n f m g=true):((cV o n f m g).m.ok=true∧1≤(cV o n f m g).c∧(cV o n f m g).c≤100)∧((cW o n f m g).m.ok=true∧1≤(cW o n f m g).c∧(cW o n f m g).c≤100):=by
 have h':=h;unfold dC at h';rw[Bool.and_eq_true]at h';have ga:=kV h'.1
 have gb:=kV h'.2;obtain⟨d1,d2,_⟩:=mF ga.1 gb.1 (rfl:M.both (bB o n f).m (bB o m g).m=iZ o n f m g);unfold cV cW;rw[if_pos h,if_pos h];exact⟨oC ga d1,oC gb d2⟩
theorem qI {l b:M} (hd:l.dvd b=true):M.mul (M.over b l).1 l=(b,true):=by
 rw[M.over,if_pos hd];obtain⟨h1,h2,h3⟩:=iR hd;have k1:=M.ok_iff.1 h1
 have k2:=M.ok_iff.1 h2;have hok:(b.diff l).ok=true:=by refine M.ok_iff.2 ?_;simp only[M.diff];omega
 have hs:(b.diff l).sum l=b:=by cases b;cases l;simp only[M.diff,M.sum,M.mk.injEq];omega
 unfold M.mul;rw[hs,if_pos ⟨hok,h1,h2⟩]
theorem tA (a b:Int):mx a b-a=0∨mx a b-b=0:=by unfold mx;split<;>omega
theorem zT {o:Int} {n:Nat} {f:Nat→T} {m:Nat} {g:Nat→T} (h:dC o n f m g=true):M.mul (cV o n f m g).m (bB o n f).m=(iZ o n f m g,true)∧M.mul (cW o n f m g).m (bB o m g).m=(iZ o n f m g,true)∧lO (cV o n f m g).c (bB o n f).c=1∧lO (cW o n f m g).c (bB o m g).c=1∧((cV o n f m g).m.x=0∨(cW o n f m g).m.x=0)∧((cV o n f m g).m.y=0∨(cW o n f m g).m.y=0)∧((cV o n f m g).m.d=0∨(cW o n f m g).m.d=0)∧((cV o n f m g).m.e=0∨(cW o n f m g).m.e=0):=by
 have h':=h;unfold dC at h';rw[Bool.and_eq_true]at h';have ga:=kV h'.1
 have gb:=kV h'.2;obtain⟨d1,d2,_⟩:=mF ga.1 gb.1 (rfl:M.both (bB o n f).m (bB o m g).m=iZ o n f m g);have d1:(bB o n f).m.dvd (iZ o n f m g)=true:=d1
 have d2:(bB o m g).m.dvd (iZ o n f m g)=true:=d2;unfold cV cW;rw[if_pos h,if_pos h];refine⟨qI d1,qI d2,pS ⟨by omega,ga.2.2⟩ (by omega),pS ⟨by omega,gb.2.2⟩ (by omega),?_⟩;have e1:(tP (bB o n f) (iZ o n f m g)).m=(iZ o n f m g).diff (bB o n f).m:=by show(M.over _ _).1=_;rw[M.over,if_pos d1]
 have e2:(tP (bB o m g) (iZ o n f m g)).m=(iZ o n f m g).diff (bB o m g).m:=by show(M.over _ _).1=_;rw[M.over,if_pos d2]
 rw[e1,e2];unfold iZ;rw[M.both,if_pos ⟨ga.1,gb.1⟩];exact⟨tA _ _,tA _ _,tA _ _,tA _ _⟩
end Go.Proofs.Ytbkighpmkadmmaa
