/-
  The least monomial that two divide: the model's and the program's function.
-/
import Derived.Test.YtdidlcjhodejjaaGreatMEag
import Derived.Test.YtdidlcjhodejjaaGreatMFab
set_option maxHeartbeats 8000000
set_option maxRecDepth 100000
namespace Go.Proofs.YtdidlcjhodejjaaGreat
open Go.RowKit
set_option linter.unusedVariables false
theorem Dn (x y d e x' y' d' e':Int) (w:World):Calls Tryz.prog 152 #[.agg #[.int .i64 x,.int .i64 y,.int .i64 d,.int .i64 e],.agg #[.int .i64 x',.int .i64 y',.int .i64 d',.int .i64 e']] w fun r w'=>r= .returned (.agg #[.int .i64 (M.both ⟨x,y,d,e⟩ ⟨x',y',d',e'⟩).x,.int .i64 (M.both ⟨x,y,d,e⟩ ⟨x',y',d',e'⟩).y,.int .i64 (M.both ⟨x,y,d,e⟩ ⟨x',y',d',e'⟩).d,.int .i64 (M.both ⟨x,y,d,e⟩ ⟨x',y',d',e'⟩).e])∧Below w.heap.size w w':=by
 cases ha:M.ok ⟨x,y,d,e⟩
 ·have r1:M.both ⟨x,y,d,e⟩ ⟨x',y',d',e'⟩=M.zero:=by simp[M.both,ha]
  rw[r1];simp only[M.zero];clear r1;go_enter Tryz.func152,Tryz.ntmps152;go_wp2_with fail;refine(bH ha _).mono ?_;rintro r w1 ⟨rfl,hb1⟩;obtain⟨hc1,hf1⟩:=aP hb1;have hz1:w.heap.size+1+1<w1.heap.size:=by have:=hb1.size;simp at this;omega
  go_wp2;refine bY (v:=.agg #[.int .i64 0,.int .i64 0,.int .i64 0,.int .i64 0]) (by simp[results,Tryz.results152,go_sem, *]) rfl ⟨rfl,?_⟩;exact eD (aB (aY w _ _ _) hb1) (by omega) _ _ _ _
 ·cases hb:M.ok ⟨x',y',d',e'⟩
  ·have r1:M.both ⟨x,y,d,e⟩ ⟨x',y',d',e'⟩=M.zero:=by simp[M.both,hb]
   rw[r1];simp only[M.zero];clear r1;go_enter Tryz.func152,Tryz.ntmps152;go_wp2_with fail;refine(bH ha _).mono ?_;rintro r w1 ⟨rfl,hb1⟩;obtain⟨hc1,hf1⟩:=aP hb1;have hz1:w.heap.size+1+1<w1.heap.size:=by have:=hb1.size;simp at this;omega
   go_wp2_with fail;refine(bH hb _).mono ?_;rintro r w2 ⟨rfl,hb2⟩;obtain⟨hc2,hf2⟩:=aP hb2;have hz2:w.heap.size+1+1<w2.heap.size:=by have:=hb2.size;omega
   go_wp2;refine bY (v:=.agg #[.int .i64 0,.int .i64 0,.int .i64 0,.int .i64 0]) (by simp[results,Tryz.results152,go_sem, *]) rfl ⟨rfl,?_⟩;exact eD (aB (aB (aY w _ _ _) hb1) hb2) (by omega) _ _ _ _
  ·have r1:M.both ⟨x,y,d,e⟩ ⟨x',y',d',e'⟩=⟨mx x x',mx y y',mx d d',mx e e'⟩:=by simp[M.both,ha,hb]
   rw[r1];clear r1;go_enter Tryz.func152,Tryz.ntmps152;go_wp2_with fail;refine(bH ha _).mono ?_;rintro r w1 ⟨rfl,hb1⟩;obtain⟨hc1,hf1⟩:=aP hb1;have hz1:w.heap.size+1+1<w1.heap.size:=by have:=hb1.size;simp at this;omega
   have hz0:w.heap.size+1<w1.heap.size:=by omega
   have hzz:w.heap.size<w1.heap.size:=by omega
   go_wp2_with fail;refine(bH hb _).mono ?_;rintro r w2 ⟨rfl,hb2⟩;obtain⟨hc2,hf2⟩:=aP hb2;have hz2:w.heap.size+1+1<w2.heap.size:=by have:=hb2.size;omega
   have q0:w2.cell? ⟨w.heap.size,0,none⟩=some (.int .i64 x):=by go_simp
   have q1:w2.cell? ⟨w.heap.size,1,none⟩=some (.int .i64 y):=by go_simp
   have q2:w2.cell? ⟨w.heap.size,2,none⟩=some (.int .i64 d):=by go_simp
   have q3:w2.cell? ⟨w.heap.size,3,none⟩=some (.int .i64 e):=by go_simp
   have p0:w2.cell? ⟨w.heap.size+1,0,none⟩=some (.int .i64 x'):=by go_simp
   have p1:w2.cell? ⟨w.heap.size+1,1,none⟩=some (.int .i64 y'):=by go_simp
   have p2:w2.cell? ⟨w.heap.size+1,2,none⟩=some (.int .i64 d'):=by go_simp
   have p3:w2.cell? ⟨w.heap.size+1,3,none⟩=some (.int .i64 e'):=by go_simp
   have t0:w2.cell? ⟨w.heap.size+1+1,0,none⟩=some (.int .i64 0):=by go_simp
   have t1:w2.cell? ⟨w.heap.size+1+1,1,none⟩=some (.int .i64 0):=by go_simp
   have t2:w2.cell? ⟨w.heap.size+1+1,2,none⟩=some (.int .i64 0):=by go_simp
   have t3:w2.cell? ⟨w.heap.size+1+1,3,none⟩=some (.int .i64 0):=by go_simp
   have z0:∀i,w2.frozen? ⟨w.heap.size+1+1,i,none⟩=false:=fun i=>by go_simp
   have HB:=aA (aB (aB (aY w _ _ _) hb1) hb2);clear hc1 hf1 hc2 hf2 hb1 hb2;go_wp2
   all_goals
    refine bY (v:=.agg #[.int .i64 (mx x x'),.int .i64 (mx y y'),.int .i64 (mx d d'),.int .i64 (mx e e')]) (by simp[results,Tryz.results152,go_sem, *];(repeat' apply And.intro)<;>(unfold mx;split<;>omega)) rfl ⟨rfl,?_⟩;exact eD HB.out (by omega) _ _ _ _
theorem NP {x y d e x' y' d' e':Int} {m:M} (h:M.both ⟨x,y,d,e⟩ ⟨x',y',d',e'⟩=m) (w:World):Calls Tryz.prog 152 #[.agg #[.int .i64 x,.int .i64 y,.int .i64 d,.int .i64 e],.agg #[.int .i64 x',.int .i64 y',.int .i64 d',.int .i64 e']] w fun r w'=>r= .returned (.agg #[.int .i64 m.x,.int .i64 m.y,.int .i64 m.d,.int .i64 m.e])∧Below w.heap.size w w':=by have:=Dn x y d e x' y' d' e' w;rw[h]at this;exact this
open Go.RowKit Go.Deep Go.Joins
theorem Hl {B:Nat} {a w:World} {O:Obj} (h:Below a.heap.size a w) (hB:a.heap.size≤B) (u0 u1 u2 u3 u4:Value):Below a.heap.size a ((((((w.setCell ⟨B,0,none⟩ u0).setCell ⟨B,1,none⟩ u1).setCell ⟨B,2,none⟩ u2).setCell ⟨B,3,none⟩ u3).setCell ⟨B,4,none⟩ u4).alloc O).drew:=
 have k:=cE h hB u0 u1 u2 u3 u4
 (k.alloc k.size O).drew
abbrev WI (A B C:Nat) (s t:T) (m:M) (u:World):Prop:=u.cell? ⟨A,0,none⟩=some (.int .i64 s.c)∧u.cell? ⟨A,1,none⟩=some (.int .i64 s.m.x)∧u.cell? ⟨A,2,none⟩=some (.int .i64 s.m.y)∧u.cell? ⟨A,3,none⟩=some (.int .i64 s.m.d)∧u.cell? ⟨A,4,none⟩=some (.int .i64 s.m.e)∧u.cell? ⟨B,0,none⟩=some (.int .i64 t.c)∧u.cell? ⟨B,1,none⟩=some (.int .i64 t.m.x)∧u.cell? ⟨B,2,none⟩=some (.int .i64 t.m.y)∧u.cell? ⟨B,3,none⟩=some (.int .i64 t.m.d)∧u.cell? ⟨B,4,none⟩=some (.int .i64 t.m.e)∧u.cell? ⟨C,0,none⟩=some (.int .i64 m.x)∧u.cell? ⟨C,1,none⟩=some (.int .i64 m.y)∧u.cell? ⟨C,2,none⟩=some (.int .i64 m.d)∧u.cell? ⟨C,3,none⟩=some (.int .i64 m.e)
theorem WI.below {A B C:Nat} {s t:T} {m:M} {u u':World} (h:WI A B C s t m u) (hb:Below u.heap.size u u'):WI A B C s t m u':=
 have l1:=cX u ⟨A,0,none⟩ h.1;have l2:=cX u ⟨B,0,none⟩ h.2.2.2.2.2.1
 have l3:=cX u ⟨C,0,none⟩ h.2.2.2.2.2.2.2.2.2.2.1
 ⟨(hb.cell (p:=⟨A,0,none⟩) l1).trans h.1,(hb.cell (p:=⟨A,1,none⟩) l1).trans h.2.1,(hb.cell (p:=⟨A,2,none⟩) l1).trans h.2.2.1,(hb.cell (p:=⟨A,3,none⟩) l1).trans h.2.2.2.1,(hb.cell (p:=⟨A,4,none⟩) l1).trans h.2.2.2.2.1,(hb.cell (p:=⟨B,0,none⟩) l2).trans h.2.2.2.2.2.1,(hb.cell (p:=⟨B,1,none⟩) l2).trans h.2.2.2.2.2.2.1,(hb.cell (p:=⟨B,2,none⟩) l2).trans h.2.2.2.2.2.2.2.1,(hb.cell (p:=⟨B,3,none⟩) l2).trans h.2.2.2.2.2.2.2.2.1,(hb.cell (p:=⟨B,4,none⟩) l2).trans h.2.2.2.2.2.2.2.2.2.1,(hb.cell (p:=⟨C,0,none⟩) l3).trans h.2.2.2.2.2.2.2.2.2.2.1,(hb.cell (p:=⟨C,1,none⟩) l3).trans h.2.2.2.2.2.2.2.2.2.2.2.1,(hb.cell (p:=⟨C,2,none⟩) l3).trans h.2.2.2.2.2.2.2.2.2.2.2.2.1,(hb.cell (p:=⟨C,3,none⟩) l3).trans h.2.2.2.2.2.2.2.2.2.2.2.2.2⟩
theorem oR {w:World} {B b o:Nat} {v0 v1 v2 v3 v4 v5 v6 v7 v8 v9:Value} (h:b≠B):((((((((((w.setCell ⟨B,0,none⟩ v0).setCell ⟨B,1,none⟩ v1).setCell ⟨B,2,none⟩ v2).setCell ⟨B,3,none⟩ v3).setCell ⟨B,4,none⟩ v4).setCell ⟨B,5,none⟩ v5).setCell ⟨B,6,none⟩ v6).setCell ⟨B,7,none⟩ v7).setCell ⟨B,8,none⟩ v8).setCell ⟨B,9,none⟩ v9).cell? ⟨b,o,none⟩=w.cell? ⟨b,o,none⟩:=by refine mB ?_;rw[Below.heap_setCell _ _ _ _ h,Below.heap_setCell _ _ _ _ h,Below.heap_setCell _ _ _ _ h,Below.heap_setCell _ _ _ _ h,Below.heap_setCell _ _ _ _ h,Below.heap_setCell _ _ _ _ h,Below.heap_setCell _ _ _ _ h,Below.heap_setCell _ _ _ _ h,Below.heap_setCell _ _ _ _ h,Below.heap_setCell _ _ _ _ h]
def Sb (D:Nat) (u:World):Prop:=(∀i,i<10→u.cell? ⟨D,i,none⟩=some (.int .i64 0))∧∀i,u.frozen? ⟨D,i,none⟩=false
theorem Sb.below {D:Nat} {u u':World} (h:Sb D u) (hb:Below u.heap.size u u'):Sb D u':=
 have l:=cX u ⟨D,0,none⟩ (h.1 0 (by omega))
 ⟨fun i hi=>(hb.cell (p:=⟨D,i,none⟩) l).trans (h.1 i hi),fun i=>(hb.frozen (p:=⟨D,i,none⟩) l).trans (h.2 i)⟩
theorem WJ {A B C:Nat} {s t:T} {m:M} {u:World} {D:Nat} {v0 v1 v2 v3 v4 v5 v6 v7 v8 v9:Value} (h:WI A B C s t m u) (h1:A≠D) (h2:B≠D) (h3:C≠D):WI A B C s t m ((((((((((u.setCell ⟨D,0,none⟩ v0).setCell ⟨D,1,none⟩ v1).setCell ⟨D,2,none⟩ v2).setCell ⟨D,3,none⟩ v3).setCell ⟨D,4,none⟩ v4).setCell ⟨D,5,none⟩ v5).setCell ⟨D,6,none⟩ v6).setCell ⟨D,7,none⟩ v7).setCell ⟨D,8,none⟩ v8).setCell ⟨D,9,none⟩ v9):=
 ⟨(oR h1).trans h.1,(oR h1).trans h.2.1,(oR h1).trans h.2.2.1,(oR h1).trans h.2.2.2.1,(oR h1).trans h.2.2.2.2.1,(oR h2).trans h.2.2.2.2.2.1,(oR h2).trans h.2.2.2.2.2.2.1,(oR h2).trans h.2.2.2.2.2.2.2.1,(oR h2).trans h.2.2.2.2.2.2.2.2.1,(oR h2).trans h.2.2.2.2.2.2.2.2.2.1,(oR h3).trans h.2.2.2.2.2.2.2.2.2.2.1,(oR h3).trans h.2.2.2.2.2.2.2.2.2.2.2.1,(oR h3).trans h.2.2.2.2.2.2.2.2.2.2.2.2.1,(oR h3).trans h.2.2.2.2.2.2.2.2.2.2.2.2.2⟩
theorem Hk {n B:Nat} {a w:World} (h:Below n a w) (hB:n≤B) (v0 v1 v2 v3 v4 v5 v6 v7 v8 v9:Value):Below n a ((((((((((w.setCell ⟨B,0,none⟩ v0).setCell ⟨B,1,none⟩ v1).setCell ⟨B,2,none⟩ v2).setCell ⟨B,3,none⟩ v3).setCell ⟨B,4,none⟩ v4).setCell ⟨B,5,none⟩ v5).setCell ⟨B,6,none⟩ v6).setCell ⟨B,7,none⟩ v7).setCell ⟨B,8,none⟩ v8).setCell ⟨B,9,none⟩ v9):=
 (((((((((h.setCell hB v0).setCell hB v1).setCell hB v2).setCell hB v3).setCell hB v4).setCell hB v5).setCell hB v6).setCell hB v7).setCell hB v8).setCell hB v9
theorem DV (w:World) (l:T) (b:M):Calls Tryz.prog 153 #[.agg #[.int .i64 l.c,.int .i64 l.m.x,.int .i64 l.m.y,.int .i64 l.m.d,.int .i64 l.m.e],.agg #[.int .i64 b.x,.int .i64 b.y,.int .i64 b.d,.int .i64 b.e]] w fun r w'=>r= .returned (.agg #[.int .i64 (iQ l b).c,.int .i64 (iQ l b).m.x,.int .i64 (iQ l b).m.y,.int .i64 (iQ l b).m.d,.int .i64 (iQ l b).m.e])∧Below w.heap.size w w':=by
 obtain⟨m,bv,hm⟩:∃m bv,M.over ⟨b.x,b.y,b.d,b.e⟩ ⟨l.m.x,l.m.y,l.m.d,l.m.e⟩=(m,bv):=⟨_,_,rfl⟩
 have e1:iQ l b=⟨kN l.c,m⟩:=by unfold iQ;rw[show M.over b l.m=(m,bv)from hm]
 rw[e1];clear e1;go_enter Tryz.func153,Tryz.ntmps153;go_wp2_with fail;refine(zT hm _).mono ?_;rintro r w1 ⟨rfl,hb1⟩;obtain⟨hc1,hf1⟩:=aP hb1;have hz1:w.heap.size+1+1<w1.heap.size:=by have:=hb1.size;simp at this;omega
 have HB1:=aA (aB (aY w _ _ _) hb1);have q0:w1.cell? ⟨w.heap.size,0,none⟩=some (.int .i64 l.c):=by go_simp
 have t0:w1.cell? ⟨w.heap.size+1+1,0,none⟩=some (.int .i64 0):=by go_simp
 have t1:w1.cell? ⟨w.heap.size+1+1,1,none⟩=some (.int .i64 0):=by go_simp
 have t2:w1.cell? ⟨w.heap.size+1+1,2,none⟩=some (.int .i64 0):=by go_simp
 have t3:w1.cell? ⟨w.heap.size+1+1,3,none⟩=some (.int .i64 0):=by go_simp
 have t4:w1.cell? ⟨w.heap.size+1+1,4,none⟩=some (.int .i64 0):=by go_simp
 have z0:∀i,w1.frozen? ⟨w.heap.size+1+1,i,none⟩=false:=fun i=>by go_simp
 have hz2:w.heap.size<w1.heap.size:=by omega
 have HB2:=aA (HB1.out.alloc HB1.out.size (.cells #[.int .i64 m.x,.int .i64 m.y,.int .i64 m.d,.int .i64 m.e] 40));have hS:L5 w.heap.size 0 w1.heap.size (.int .i64 l.c) m (w1.alloc (.cells #[.int .i64 m.x,.int .i64 m.y,.int .i64 m.d,.int .i64 m.e] 40)).drew:=by have h4:=M4.box w1 40 m.x m.y m.d m.e;exact⟨(LN _ _ _ hz2).trans q0,h4.1,h4.2.1,h4.2.2.1,h4.2.2.2⟩
 clear hc1 hf1 hb1 hm;go_wp2_with fail;obtain⟨p0,p1,p2,p3,p4⟩:=hS
 go_region_with (first|(go_at_call 94;refine(Qj _ _).mono ?_;rintro r w7 ⟨rfl,hw7⟩;obtain rfl:=hw7.symm;clear hw7))
 all_goals
  go_wp2;refine bY (v:=.agg #[.int .i64 (kN l.c),.int .i64 m.x,.int .i64 m.y,.int .i64 m.d,.int .i64 m.e]) (by simp[results,Tryz.results153,go_sem, *]) rfl ⟨rfl,?_⟩;exact Hl HB1.out (by omega) _ _ _ _ _
theorem Ga (w:World) (la lb:T):Calls Tryz.prog 122 #[.agg #[.int .i64 la.c,.int .i64 la.m.x,.int .i64 la.m.y,.int .i64 la.m.d,.int .i64 la.m.e],.agg #[.int .i64 lb.c,.int .i64 lb.m.x,.int .i64 lb.m.y,.int .i64 lb.m.d,.int .i64 lb.m.e]] w fun r w'=>r= .returned (.agg #[.int .i64 (iQ la (M.both la.m lb.m)).c,.int .i64 (iQ la (M.both la.m lb.m)).m.x,.int .i64 (iQ la (M.both la.m lb.m)).m.y,.int .i64 (iQ la (M.both la.m lb.m)).m.d,.int .i64 (iQ la (M.both la.m lb.m)).m.e,.int .i64 (iQ lb (M.both la.m lb.m)).c,.int .i64 (iQ lb (M.both la.m lb.m)).m.x,.int .i64 (iQ lb (M.both la.m lb.m)).m.y,.int .i64 (iQ lb (M.both la.m lb.m)).m.d,.int .i64 (iQ lb (M.both la.m lb.m)).m.e])∧Below w.heap.size w w':=by
 obtain⟨m,hm⟩:∃m,M.both ⟨la.m.x,la.m.y,la.m.d,la.m.e⟩ ⟨lb.m.x,lb.m.y,lb.m.d,lb.m.e⟩=m:=⟨_,rfl⟩
 rw[show M.both la.m lb.m=m from hm];obtain⟨U,hU⟩:∃U,iQ la m=U:=⟨_,rfl⟩
 obtain⟨V,hV⟩:∃V,iQ lb m=V:=⟨_,rfl⟩
 rw[hU,hV];have c1:=fun W=>DV W la m
 have c2:=fun W=>DV W lb m;rw[hU]at c1;rw[hV]at c2;clear hU hV;go_enter Tryz.func122,Tryz.ntmps122;go_wp2_with fail;refine(NP hm _).mono ?_;rintro r w1 ⟨rfl,hb1⟩;obtain⟨hc1,hf1⟩:=aP hb1;have hz1:w.heap.size+1+1<w1.heap.size:=by have:=hb1.size;simp at this;omega
 have HB1:=aA (aB (aY w _ _ _) hb1);have hS:WI w.heap.size (w.heap.size+1) w1.heap.size la lb m (w1.alloc (.cells #[.int .i64 m.x,.int .i64 m.y,.int .i64 m.d,.int .i64 m.e] 40)).drew:=by
  have h4:=M4.box w1 40 m.x m.y m.d m.e;have k1:w.heap.size<w1.heap.size:=by omega
  have k2:w.heap.size+1<w1.heap.size:=by omega
  refine⟨(LN _ _ _ k1).trans (by go_simp),(LN _ _ _ k1).trans (by go_simp),(LN _ _ _ k1).trans (by go_simp),(LN _ _ _ k1).trans (by go_simp),(LN _ _ _ k1).trans (by go_simp),(LN _ _ _ k2).trans (by go_simp),(LN _ _ _ k2).trans (by go_simp),(LN _ _ _ k2).trans (by go_simp),(LN _ _ _ k2).trans (by go_simp),(LN _ _ _ k2).trans (by go_simp),h4.1,h4.2.1,h4.2.2.1,h4.2.2.2⟩
 have hZ:Sb (w.heap.size+1+1) (w1.alloc (.cells #[.int .i64 m.x,.int .i64 m.y,.int .i64 m.d,.int .i64 m.e] 40)).drew:=by
  refine⟨fun i hi=>(LN _ _ _ hz1).trans ?_,fun i=>((aC w1 _).frozen (p:=⟨w.heap.size+1+1,i,none⟩) hz1).trans (by go_simp)⟩;have h10:i=0∨i=1∨i=2∨i=3∨i=4∨i=5∨i=6∨i=7∨i=8∨i=9:=by omega
  rcases h10 with rfl|rfl|rfl|rfl|rfl|rfl|rfl|rfl|rfl|rfl<;>go_simp
 have HZ:=aA hZ;clear hm hb1 hc1 hf1 hZ;have hz2:w.heap.size+1<w1.heap.size:=by omega
 have hz3:w.heap.size<w1.heap.size:=by omega
 have HB2:=aA (HB1.out.alloc HB1.out.size (.cells #[.int .i64 m.x,.int .i64 m.y,.int .i64 m.d,.int .i64 m.e] 40));go_wp2_with fail
 go_region_held3 (fun u=>u.cell? ⟨w.heap.size,0,none⟩=some (.int .i64 la.c)∧u.cell? ⟨w.heap.size,1,none⟩=some (.int .i64 la.m.x)∧u.cell? ⟨w.heap.size,2,none⟩=some (.int .i64 la.m.y)∧u.cell? ⟨w.heap.size,3,none⟩=some (.int .i64 la.m.d)∧u.cell? ⟨w.heap.size,4,none⟩=some (.int .i64 la.m.e)∧u.cell? ⟨w.heap.size+1,0,none⟩=some (.int .i64 lb.c)∧u.cell? ⟨w.heap.size+1,1,none⟩=some (.int .i64 lb.m.x)∧u.cell? ⟨w.heap.size+1,2,none⟩=some (.int .i64 lb.m.y)∧u.cell? ⟨w.heap.size+1,3,none⟩=some (.int .i64 lb.m.d)∧u.cell? ⟨w.heap.size+1,4,none⟩=some (.int .i64 lb.m.e)∧u.cell? ⟨w1.heap.size,0,none⟩=some (.int .i64 m.x)∧u.cell? ⟨w1.heap.size,1,none⟩=some (.int .i64 m.y)∧u.cell? ⟨w1.heap.size,2,none⟩=some (.int .i64 m.d)∧u.cell? ⟨w1.heap.size,3,none⟩=some (.int .i64 m.e)) (first|with_reducible exact hS|with_reducible exact WI.below hS b1|with_reducible exact WI.below (WI.below hS b1) b2|with_reducible exact WJ (WI.below (WI.below hS b1) b2) (by omega) (by omega) (by omega)) (first|(go_at_call_of 153 (Value.agg #[Value.int .i64 la.c,Value.int .i64 la.m.x,Value.int .i64 la.m.y,Value.int .i64 la.m.d,Value.int .i64 la.m.e]);refine(c1 _).mono ?_;rintro r w2 ⟨rfl,b1⟩)|(go_at_call_of 153 (Value.agg #[Value.int .i64 lb.c,Value.int .i64 lb.m.x,Value.int .i64 lb.m.y,Value.int .i64 lb.m.d,Value.int .i64 lb.m.e]);refine(c2 _).mono ?_;rintro r w3 ⟨rfl,b2⟩;have hZ3:=(HZ.out.below b1).below b2;have d0:=hZ3.1 0 (by omega);have d1:=hZ3.1 1 (by omega);have d2:=hZ3.1 2 (by omega);have d3:=hZ3.1 3 (by omega);have d4:=hZ3.1 4 (by omega);have d5:=hZ3.1 5 (by omega);have d6:=hZ3.1 6 (by omega);have d7:=hZ3.1 7 (by omega);have d8:=hZ3.1 8 (by omega);have d9:=hZ3.1 9 (by omega);have dz:=hZ3.2;clear hZ3))
 have HB4:=aA (aB (aB HB2.out.drew b1) b2);go_wp2;refine bY (v:=.agg #[.int .i64 U.c,.int .i64 U.m.x,.int .i64 U.m.y,.int .i64 U.m.d,.int .i64 U.m.e,.int .i64 V.c,.int .i64 V.m.x,.int .i64 V.m.y,.int .i64 V.m.d,.int .i64 V.m.e]) (by simp[results,Tryz.results122,go_sem, *]) rfl ⟨rfl,?_⟩;exact Hk HB4.out (by omega) _ _ _ _ _ _ _ _ _ _
end Go.Proofs.YtdidlcjhodejjaaGreat
namespace Go.Proofs.YtdidlcjhodejjaaGreat
open Go.RowKit
set_option linter.unusedVariables false
theorem Kq {c:Int} {f g:Nat→T} {la lb:Nat} (F:Fl f la) (G:Fl g lb) (m:M):iV c g (iV 1 f (fun _=>0) la) lb m=(dN f la 0 m+c*dN g lb 0 m)%101:=by
 have hz:∀m:M,(0:Int)≤(fun _=>0:M→Int) m∧(fun _=>0:M→Int) m≤100:=fun _=>⟨Int.le_refl _,by show(0:Int)≤100;decide⟩
 have h1:=nT (k:=1) F hz la (Nat.le_refl _);have h2:=nT (k:=c) G (c:=iV 1 f (fun _=>0) la) (fun m=>by rw[h1];omega) lb (Nat.le_refl _) m
 rw[h2,h1];simp only[Int.one_mul];omega
open Go.RowKit Go.Maps Go.Sort Go.Shelf
theorem Di (n:Int) (w:World):(Instr.makeMap 170 (some (.int .i64 n))).run Tryz.prog w= .ok (.map (some w.heap.size)) (w.alloc (.map #[] 0)):=by have hu:=run_underlying (P:=Tryz.prog) Tryz.underlying170;unfold Instr.makeMap;simp[hu,asInt,go_sem,Sem.run_bind,Result.andThen]
def EW (k:Int) (f:Nat→T) (la:Nat) (g:Nat→T) (lb:Nat) (K:List T):List T×Bool:=if aN la f=true∧aN lb g=true∧K.length≤400 then(K,true)else([],false)
theorem KE (w:World) (a b:Option Addr) (la ca lb cb:Nat) (f g:Nat→T) (k:Int) (k0:0≤k) (k1:k≤100) (ha:Rd w a la ca f) (hb:Rd w b lb cb g) (K:List T) (hK:aN la f=true→aN lb g=true→aK K∧∀m,m.ok=true→aM K m=iV k g (iV 1 f (fun _=>0) la) lb m):Calls Tryz.prog 171 #[.slice a la ca,.int .i64 k,.slice b lb cb] w fun r w'=>∃v,r= .returned (.tuple #[v,.bool (EW k f la g lb K).2])∧Below w.heap.size w w'∧w'.ownsRow w.heap.size 42 5 v (EW k f la g lb K).1.length (aE (EW k f la g lb K).1):=by
 have HA:=aA ha;have HB:=aA hb
 have hla:(la:Int)≤140737488351232:=by have:=ha.2.1;omega
 have hlb:(lb:Int)≤140737488351232:=by have:=hb.2.1;omega
 clear ha hb;cases hpa:aN la f
 ·have e1:EW k f la g lb K=([],false):=by simp[EW,hpa]
  rw[e1];go_enter Tryz.func171,Tryz.ntmps171;go_wp2_with (go_at_call 63;refine(eO _ _ _ _ f HA.out).mono ?_;rw[hpa];rintro r w1 ⟨rfl,hb1⟩;have HB1:=aA hb1;clear hb1);refine bY (results_tmp2 rfl _ _ _) rfl ?_;exact⟨_,rfl,HB1.out,mI w1 _⟩
 ·cases hpb:aN lb g
  ·have e1:EW k f la g lb K=([],false):=by simp[EW,hpb]
   rw[e1];go_enter Tryz.func171,Tryz.ntmps171
   go_wp2_with (first
    |(go_at_call_of 63 (Value.slice a la ca);refine(eO _ _ _ _ f HA.out).mono ?_;rw[hpa];rintro r w1 ⟨rfl,hb1⟩;have HB1:=aA hb1;clear hb1)
    |(go_at_call_of 63 (Value.slice b lb cb);refine(eO _ _ _ _ g (HB.out.below HB1.out)).mono ?_;rw[hpb];rintro r w2 ⟨rfl,hb2⟩;have HB2:=aA hb2;clear hb2))
   refine bY (results_tmp2 rfl _ _ _) rfl ?_;exact⟨_,rfl,aB HB1.out HB2.out,mI w2 _⟩
  ·obtain⟨hKf,hKc⟩:=hK hpa hpb;have F:=fR hpa
   have G:=fR hpb;have HF:=aA F
   have HG:=aA G;have l1:la≤400:=by simp only[aN,decide_eq_true_eq]at hpa;exact hpa.1
   have l2:lb≤400:=by simp only[aN,decide_eq_true_eq]at hpb;exact hpb.1
   have hmk:=Di;have e2:EW k f la g lb K=FF K:=by simp[EW,FF,hpa,hpb]
   rw[e2];clear F G e2 hK;go_enter Tryz.func171,Tryz.ntmps171
   go_wp2_with (first
    |(go_at_call_of 63 (Value.slice a la ca);refine(eO _ _ _ _ f HA.out).mono ?_;rw[hpa];rintro r w1 ⟨rfl,hb1⟩;have HB1:=aA hb1;clear hb1)
    |(go_at_call_of 63 (Value.slice b lb cb);refine(eO _ _ _ _ g (HB.out.below HB1.out)).mono ?_;rw[hpb];rintro r w2 ⟨rfl,hb2⟩;have HB2:=aA (aB HB1.out hb2);clear hb2)
    |(go_at_call_of 147 (Value.slice a la ca);refine(sQ _ w2.heap.size 0 _ 1 a la ca f (yZ w2) ((HA.out.below HB2.out).below (aC w2 _)) ((HA.out.below HB2.out).apart (Nat.le_refl _)) (fun i hi=>(HF.out.2 i hi).1) (fun i hi=>by have:=HF.out.2 i hi;omega) (by omega) (by omega) (by omega) (by simp)).mono ?_;rintro r w3 ⟨rfl,hs3,hg3⟩;have HS3:=aA hs3;have HG3:=aA ((World.grownBy_alloc w2 (.map #[] 0) (some w2.heap.size)).trans hg3);clear hs3 hg3)
    |(go_at_call_of 147 (Value.slice b lb cb);refine(sQ _ w2.heap.size (0+la) _ k b lb cb g HS3.out ((HB.out.below HB2.out).grown HG3.out ((HB.out.below HB2.out).apart (Nat.le_refl _))) ((HB.out.below HB2.out).apart (Nat.le_refl _)) (fun i hi=>(HG.out.2 i hi).1) (fun i hi=>by have:=HG.out.2 i hi;omega) k0 k1 (by omega) (by obtain⟨D,ho,_⟩:=HS3.out;exact ho.lt)).mono ?_;rintro r w4 ⟨rfl,hs4,hg4⟩;have HS4:=aA hs4;have HG4:=aA (HG3.out.trans hg4);clear hs4 hg4))
   have hlo:w.heap.size≤w2.heap.size:=HB2.out.size;have hB4:Below w.heap.size w w4:=HB2.out.grown HG4.out hlo (fun k' e=>by cases e;exact hlo)
   refine(TD _ _ _ _ HS4.out (by omega) hKf hKc).mono ?_;rintro r w5 ⟨v,rfl,hb5,ho5⟩;go_wp2;refine bY (results_tmp2 rfl _ _ _) rfl ?_;exact⟨_,rfl,hB4.trans (hb5.mono hB4.size),jG ho5 hB4.size⟩
theorem zM {f g:Nat→T} (r:Int→Int) (hr:r 0=0) {m:M}:∀(u i:Nat),(∀j,i≤j→j<i+u→(g j).m=(f j).m∧(g j).c=r (f j).c)→dN g u i m=r (dN f u i m)
 |0,_,_=>hr.symm
 |u+1,i,h=>by have h0:=h i (Nat.le_refl _) (by omega);rw[dN,dN,h0.1,h0.2,zM r hr u (i+1) (fun j h1 h2=>h j (by omega) (by omega))];split<;>rfl
theorem Ob {g:Nat→T} {lb:Nat} (G:Fl g lb):Fl (zZ g lb) lb:=by
 refine⟨fun j i hji hi=>?_,fun i hi=>?_⟩
 ·unfold zZ;rw[CQ _ _ _ _ hi,CQ _ _ _ _ (by omega)];exact G.1 j i hji hi
 ·have h:=G.2 i hi;unfold zZ;rw[CQ _ _ _ _ hi];refine⟨h.1,?_,?_⟩
  ·show 1≤100*(g i).c%101;omega
  ·show 100*(g i).c%101≤100;omega
theorem Em {f g:Nat→T} {la lb:Nat} (hpa:aN la f=true) (hpb:aN lb g=true):aK (iM f la (zZ g lb) lb 0 0)∧∀m,m.ok=true→aM (iM f la (zZ g lb) lb 0 0) m=iV 100 g (iV 1 f (fun _=>0) la) lb m:=by
 obtain⟨_,h2,h3⟩:=nN (fR hpa) (Ob (fR hpb)) (la-0+(lb-0)) 0 0 (Nat.le_refl _);refine⟨h2,fun m _=>?_⟩;rw[Kq (fR hpa) (fR hpb)]
 have h4:=zM (f:=g) (g:=zZ g lb) (fun c=>100*c%101) rfl (m:=m) lb 0 (fun j _ hj=>by
  unfold zZ;rw[CQ _ _ _ _ (by omega)]
  exact⟨rfl,rfl⟩)
 refine(h3 m).trans ?_;rw[Nat.sub_zero,Nat.sub_zero,h4];omega
theorem VD (w:World) (a b:Option Addr) (la ca lb cb:Nat) (f g:Nat→T) (ha:Rd w a la ca f) (hb:Rd w b lb cb g):Calls Tryz.prog 155 #[.slice a la ca,.slice b lb cb] w fun r w'=>∃a' cap',r= .returned (.tuple #[.slice a' (lO f la g lb).1.length cap',.bool (lO f la g lb).2])∧Below w.heap.size w w'∧jN w.heap.size w' a' cap' (lO f la g lb).1:=by
 have hc:=KE w a b la ca lb cb f g 100 (by omega) (by omega) ha hb (iM f la (zZ g lb) lb 0 0) Em;have e:EW 100 f la g lb (iM f la (zZ g lb) lb 0 0)=lO f la g lb:=rfl
 rw[e]at hc;have hlen:=DH f la g lb
 generalize lO f la g lb=r at *;obtain⟨L,ok⟩:=r;go_enter Tryz.func155,Tryz.ntmps155;go_wp2_with (go_at_call 171;refine hc.mono ?_;rintro r w1 ⟨v,rfl,hb1,ho1⟩);refine bY (results_tmp2 rfl _ _ _) rfl ?_;obtain⟨a',cap',rfl,hout⟩:=aH ho1 (by omega);exact⟨a',cap',rfl,hb1,hout⟩
end Go.Proofs.YtdidlcjhodejjaaGreat
namespace Go.Proofs.YtdidlcjhodejjaaGreat
open Go.RowKit Go.Deep Go.Joins
set_option linter.unusedVariables false
theorem Jp {lo lo':Nat} {w:World} {a:Option Addr} {cap:Nat} {L:List T} (h:jN lo w a cap L) (hl:lo'≤lo):jN lo' w a cap L:=⟨h.1,h.2.1,h.2.2.imp id (fun⟨g,off,he,hlo⟩=>⟨g,off,he,jZ hl hlo⟩)⟩
theorem Pz (w:World) (u v:T) (a b:Option Addr) (n ca m cb:Nat) (f g:Nat→T) (ha:Rd w a n ca f) (hb:Rd w b m cb g):Calls Tryz.prog 125 #[.agg #[.int .i64 u.c,.int .i64 u.m.x,.int .i64 u.m.y,.int .i64 u.m.d,.int .i64 u.m.e,.int .i64 v.c,.int .i64 v.m.x,.int .i64 v.m.y,.int .i64 v.m.d,.int .i64 v.m.e],.slice a n ca,.slice b m cb] w fun r w'=>∃a' cap',r= .returned (.tuple #[.slice a' (mE u v f n g m).1.length cap',.bool (mE u v f n g m).2])∧Below w.heap.size w w'∧jN w.heap.size w' a' cap' (mE u v f n g m).1:=by
 have HA:=aA ha;have HB:=aA hb
 have hla:(n:Int)≤140737488351232:=by have:=ha.2.1;omega
 have hlb:(m:Int)≤140737488351232:=by have:=hb.2.1;omega
 have hc1:=fun(W:World) (A:Nat) (h:RL W (some ⟨A,0,none⟩) 1 [u]) (h':Rd W a n ca f)=>AX W (some ⟨A,0,none⟩) a 1 1 n ca (lf [u]) f h h';have hc2:=fun(W:World) (A:Nat) (h:RL W (some ⟨A,0,none⟩) 1 [v]) (h':Rd W b m cb g)=>AX W (some ⟨A,0,none⟩) b 1 1 m cb (lf [v]) g h h'
 have hl1:=vH (lf [u]) 1 f n;have hl2:=vH (lf [v]) 1 g m
 clear ha hb;unfold mE;generalize bV (lf [u]) 1 f n=p at *;generalize bV (lf [v]) 1 g m=q at *;obtain⟨X,k1⟩:=p;obtain⟨Y,k2⟩:=q;dsimp only at hc1 hc2 hl1 hl2⊢;have hru:=gR (w.alloc (.cells #[.int .i64 u.c,.int .i64 u.m.x,.int .i64 u.m.y,.int .i64 u.m.d,.int .i64 u.m.e,.int .i64 v.c,.int .i64 v.m.x,.int .i64 v.m.y,.int .i64 v.m.d,.int .i64 v.m.e] 144)) u
 rw[World.size_alloc]at hru;have HRU:=aA hru
 have HB0:=aA (aR w (.cells #[.int .i64 u.c,.int .i64 u.m.x,.int .i64 u.m.y,.int .i64 u.m.d,.int .i64 u.m.e,.int .i64 v.c,.int .i64 v.m.x,.int .i64 v.m.y,.int .i64 v.m.d,.int .i64 v.m.e] 144) (.cells #[.int .i64 u.c,.int .i64 u.m.x,.int .i64 u.m.y,.int .i64 u.m.d,.int .i64 u.m.e] 42));clear hru;have hnil:∀(W:World),jN w.heap.size W none 0 ([]:List T):=fun W=>⟨⟨Nat.le_refl _,by simp,.inl rfl⟩,.inl rfl,.inl rfl⟩
 have HN:=aA hnil;clear hnil;by_cases hk:k1=true∧k2=true
 ·obtain⟨rfl,rfl⟩:=hk;rw[if_pos ⟨rfl,rfl⟩];go_enter Tryz.func125,Tryz.ntmps125;go_wp2_with fail;refine(hc1 _ _ HRU.out (HA.out.below HB0.out)).mono ?_;rintro r w1 ⟨a1,c1,rfl,hb1,ho1⟩;obtain⟨hcc,hff⟩:=aP hb1;have HB1:=aA (aB HB0.out hb1)
  have HX1:=aA ho1.1;have HBV:=aA (HB1.out.alloc HB1.out.size (.cells #[.int .i64 v.c,.int .i64 v.m.x,.int .i64 v.m.y,.int .i64 v.m.d,.int .i64 v.m.e] 42))
  clear hb1 ho1;go_wp2_with fail;clear hcc hff;refine(hc2 _ _ (gR w1 v) (HB.out.below HBV.out)).mono ?_;rintro r w2 ⟨a2,c2,rfl,hb2,ho2⟩;have HB2:=aA (aB HBV.out hb2)
  have HX2:=aA ((HX1.out.below (aC w1 (.cells #[.int .i64 v.c,.int .i64 v.m.x,.int .i64 v.m.y,.int .i64 v.m.d,.int .i64 v.m.e] 42))).below hb2);have HY2:=aA ho2.1
  clear hb2 ho2 HX1 HB1 HBV;go_wp2_with (go_at_call 155;refine(VD _ _ _ _ _ _ _ (lf X) (lf Y) HX2.out HY2.out).mono ?_;rintro r w3 ⟨a3,c3,rfl,hb3,ho3⟩);refine bY (results_tmp2 rfl _ _ _) rfl ?_;exact⟨a3,c3,rfl,aB HB2.out hb3,Jp ho3 HB2.out.size⟩
 ·rw[if_neg hk];have hk':(!k1|| !k2)=true:=by cases k1<;>cases k2<;>simp at hk⊢
  go_enter Tryz.func125,Tryz.ntmps125;go_wp2_with fail;refine(hc1 _ _ HRU.out (HA.out.below HB0.out)).mono ?_;rintro r w1 ⟨a1,c1,rfl,hb1,ho1⟩;obtain⟨hcc,hff⟩:=aP hb1;have HB1:=aA (aB HB0.out hb1)
  have HX1:=aA ho1.1;have HBV:=aA (HB1.out.alloc HB1.out.size (.cells #[.int .i64 v.c,.int .i64 v.m.x,.int .i64 v.m.y,.int .i64 v.m.d,.int .i64 v.m.e] 42))
  clear hb1 ho1;go_wp2_with fail;clear hcc hff;refine(hc2 _ _ (gR w1 v) (HB.out.below HBV.out)).mono ?_;rintro r w2 ⟨a2,c2,rfl,hb2,ho2⟩;have HB2:=aA (aB HBV.out hb2)
  have HX2:=aA ((HX1.out.below (aC w1 (.cells #[.int .i64 v.c,.int .i64 v.m.x,.int .i64 v.m.y,.int .i64 v.m.d,.int .i64 v.m.e] 42))).below hb2);have HY2:=aA ho2.1
  clear hb2 ho2 HX1 HB1 HBV;cases k1
  ·go_wp2;refine bY (results_tmp2 rfl _ _ _) rfl ?_;exact⟨none,0,rfl,HB2.out,HN.out w2⟩
  ·cases k2
   ·go_wp2;refine bY (results_tmp2 rfl _ _ _) rfl ?_;exact⟨none,0,rfl,HB2.out,HN.out w2⟩
   ·exact absurd ⟨rfl,rfl⟩ hk
theorem DI {m j:Nat} (h:j<aZ m):(pq j).1<(pq j).2∧(pq j).2<m:=by obtain⟨k,i,h1,h2,rfl⟩:=TE m j h;rw[pJ k i h2];exact⟨h2,h1⟩
structure Pr where
 t1:T
 t2:T
 i:Nat
 k:Nat
def oW (kf:Nat→T) (j:Nat):Pr:=⟨iQ (kf (pq j).1) (M.both (kf (pq j).1).m (kf (pq j).2).m),iQ (kf (pq j).2) (M.both (kf (pq j).1).m (kf (pq j).2).m),(pq j).1,(pq j).2⟩
theorem YV {kf kf':Nat→T} {m j:Nat} (h:∀i,i<m→kf i=kf' i) (hj:j<aZ m):oW kf j=oW kf' j:=by obtain⟨h1,h2⟩:=DI hj;unfold oW;rw[h _ (Nat.lt_trans h1 h2),h _ h2]
abbrev Jt (p:Pr) (nx:Option Addr):Array Value:=#[vi p.t1.c,vi p.t1.m.x,vi p.t1.m.y,vi p.t1.m.d,vi p.t1.m.e,vi p.t2.c,vi p.t2.m.x,vi p.t2.m.y,vi p.t2.m.d,vi p.t2.m.e,vi (p.i:Int),vi (p.k:Int),.pointer nx]
structure jK (w:World) (b:Nat) (p:Pr) (nx:Option Addr):Prop where
 a0:w.cell? ⟨b,0,none⟩=some (.int .i64 p.t1.c)
 a1:w.cell? ⟨b,1,none⟩=some (.int .i64 p.t1.m.x)
 a2:w.cell? ⟨b,2,none⟩=some (.int .i64 p.t1.m.y)
 a3:w.cell? ⟨b,3,none⟩=some (.int .i64 p.t1.m.d)
 a4:w.cell? ⟨b,4,none⟩=some (.int .i64 p.t1.m.e)
 b0:w.cell? ⟨b,5,none⟩=some (.int .i64 p.t2.c)
 b1:w.cell? ⟨b,6,none⟩=some (.int .i64 p.t2.m.x)
 b2:w.cell? ⟨b,7,none⟩=some (.int .i64 p.t2.m.y)
 b3:w.cell? ⟨b,8,none⟩=some (.int .i64 p.t2.m.d)
 b4:w.cell? ⟨b,9,none⟩=some (.int .i64 p.t2.m.e)
 ci:w.cell? ⟨b,10,none⟩=some (.int .i64 (p.i:Int))
 ck:w.cell? ⟨b,11,none⟩=some (.int .i64 (p.k:Int))
 nx:w.cell? ⟨b,12,none⟩=some (.pointer nx)
 fz:w.frozen? ⟨b,12,none⟩=false
theorem jK.lt {w:World} {b:Nat} {p:Pr} {nx:Option Addr} (h:jK w b p nx):b<w.heap.size:=cX w _ h.a0
theorem jK.fr {P:Nat→Prop} {w w':World} {b:Nat} {p:Pr} {nx:Option Addr} (h:jK w b p nx) (hf:Fr P w w') (hp:¬P b):jK w' b p nx:=
 have hl:=h.lt
 ⟨(hf.cell hl hp).trans h.a0,(hf.cell hl hp).trans h.a1,(hf.cell hl hp).trans h.a2,(hf.cell hl hp).trans h.a3,(hf.cell hl hp).trans h.a4,(hf.cell hl hp).trans h.b0,(hf.cell hl hp).trans h.b1,(hf.cell hl hp).trans h.b2,(hf.cell hl hp).trans h.b3,(hf.cell hl hp).trans h.b4,(hf.cell hl hp).trans h.ci,(hf.cell hl hp).trans h.ck,(hf.cell hl hp).trans h.nx,(hf.frozen hl hp).trans h.fz⟩
theorem jK.below {w w':World} {b:Nat} {p:Pr} {nx:Option Addr} (h:jK w b p nx) (hb:Below w.heap.size w w'):jK w' b p nx:=h.fr (P:=fun _=>False) (bA hb) id
theorem jK.box (w:World) (y:TypeId) (p:Pr) (nx:Option Addr):jK (w.alloc (.cells (Jt p nx) y)) w.heap.size p nx:=by constructor<;>first|(rw[World.cell?_alloc_at _ _ _ _ rfl];rfl)|(simp[go_sem])
theorem zY {b j:Nat} (h:j≠12):(⟨b,12,none⟩:Addr)≠⟨b,j,none⟩:=fun e=>h (by injection e with _ e2;exact e2.symm)
theorem jK.link {w:World} {b:Nat} {p:Pr} {nx:Option Addr} (h:jK w b p nx) (nx':Option Addr):jK (w.setCell ⟨b,12,none⟩ (.pointer nx')) b p nx' where
 a0:=(aS (zY (by omega))).trans h.a0
 a1:=(aS (zY (by omega))).trans h.a1
 a2:=(aS (zY (by omega))).trans h.a2
 a3:=(aS (zY (by omega))).trans h.a3
 a4:=(aS (zY (by omega))).trans h.a4
 b0:=(aS (zY (by omega))).trans h.b0
 b1:=(aS (zY (by omega))).trans h.b1
 b2:=(aS (zY (by omega))).trans h.b2
 b3:=(aS (zY (by omega))).trans h.b3
 b4:=(aS (zY (by omega))).trans h.b4
 ci:=(aS (zY (by omega))).trans h.ci
 ck:=(aS (zY (by omega))).trans h.ck
 nx:=iX h.nx
 fz:=by rw[World.frozen?_setCell];exact h.fz
def qF (B:Nat→Nat) (a e:Nat):Option Addr:=if a<e then some ⟨B a,0,none⟩else none
structure lQ (w:World) (lo Q z:Nat) (lv:Value) (m:Nat) (kf:Nat→T) (B:Nat→Nat) (a e:Nat):Prop where
 cl:w.cell? ⟨Q,z,none⟩=some lv
 cf:w.cell? ⟨Q,z+1,none⟩=some (.pointer (qF B a e))
 ct:∃v,w.cell? ⟨Q,z+2,none⟩=some v∧(a<e→v= .pointer (some ⟨B (e-1),0,none⟩))
 fz:w.frozen? ⟨Q,z,none⟩=false∧w.frozen? ⟨Q,z+1,none⟩=false∧w.frozen? ⟨Q,z+2,none⟩=false
 own:w.ownsRow lo 42 5 lv ((List.range m).map kf).length (aE ((List.range m).map kf))
 ap:∀g,lv.ownBlock=some g→g≠Q
 pr:∀j,a≤j→j<e→jK w (B j) (oW kf j) (if j+1<e then some ⟨B (j+1),0,none⟩else none)
 bk:∀j,a≤j→j<e→lo≤B j∧B j≠Q∧lv.ownBlock≠some (B j)
 inj:∀i j,a≤i→i<j→j<e→B i≠B j
 hQ:lo≤Q
def QS (Q:Nat) (lv:Value) (B:Nat→Nat) (a e k:Nat):Prop:=k=Q∨lv.ownBlock=some k∨(a<e∧k=B (e-1))
theorem lQ.lt {w:World} {lo Q z:Nat} {lv:Value} {m:Nat} {kf:Nat→T} {B:Nat→Nat} {a e:Nat} (h:lQ w lo Q z lv m kf B a e):Q<w.heap.size:=cX w _ h.cl
theorem lQ.fr {P:Nat→Prop} {w w':World} {lo Q z:Nat} {lv:Value} {m:Nat} {kf:Nat→T} {B:Nat→Nat} {a e:Nat} (h:lQ w lo Q z lv m kf B a e) (hf:Fr P w w') (h1:¬P Q) (h2:∀g,lv.ownBlock=some g→¬P g) (h3:∀j,a≤j→j<e→¬P (B j)):lQ w' lo Q z lv m kf B a e where
 cl:=(hf.cell h.lt h1).trans h.cl
 cf:=(hf.cell h.lt h1).trans h.cf
 ct:=h.ct.imp fun v ⟨c1,c2⟩=>⟨(hf.cell h.lt h1).trans c1,c2⟩
 fz:=⟨(hf.frozen h.lt h1).trans h.fz.1,(hf.frozen h.lt h1).trans h.fz.2.1,(hf.frozen h.lt h1).trans h.fz.2.2⟩
 own:=hf.owns h.own h2
 ap:=h.ap
 pr:=fun j i1 i2=>(h.pr j i1 i2).fr hf (h3 j i1 i2)
 bk:=h.bk
 inj:=h.inj
 hQ:=h.hQ
theorem lQ.below {w w':World} {lo Q z:Nat} {lv:Value} {m:Nat} {kf:Nat→T} {B:Nat→Nat} {a e:Nat} (h:lQ w lo Q z lv m kf B a e) (hb:Below w.heap.size w w'):lQ w' lo Q z lv m kf B a e:=h.fr (P:=fun _=>False) (bA hb) id (fun _ _=>id) (fun _ _ _=>id)
def AE (B:Nat→Nat) (e b j:Nat):Nat:=if j=e then b else B j
theorem Jv {B B':Nat→Nat} {a e e':Nat} (h:a<e) (h':a<e') (hB:B a=B' a):qF B a e=qF B' a e':=by unfold qF;rw[if_pos h,if_pos h',hB]
theorem lQ.push {w:World} {lo Q z:Nat} {lv:Value} {m:Nat} {kf:Nat→T} {B:Nat→Nat} {a e:Nat} (h:lQ w lo Q z lv m kf B a e) (hae:a≤e) {b:Nat} (hb:jK w b (oW kf e) none) (hlo:lo≤b) (hbQ:b≠Q) (hbl:lv.ownBlock≠some b) (hbB:∀j,a≤j→j<e→B j≠b):lQ (if a<e then(w.setCell ⟨B (e-1),12,none⟩ (.pointer (some ⟨b,0,none⟩))).setCell ⟨Q,z+2,none⟩ (.pointer (some ⟨b,0,none⟩))else(w.setCell ⟨Q,z+1,none⟩ (.pointer (some ⟨b,0,none⟩))).setCell ⟨Q,z+2,none⟩ (.pointer (some ⟨b,0,none⟩))) lo Q z lv m kf (AE B e b) a (e+1):=by
 have hub:∀j,j<e→AE B e b j=B j:=fun j hj=>if_neg (by omega);have hue:AE B e b e=b:=if_pos rfl
 obtain⟨tv,ht,_⟩:=h.ct;by_cases hlt:a<e
 ·rw[if_pos hlt];have hl:=h.bk (e-1) (by omega) (by omega)
  have f1:Fr (fun k=>k=B (e-1)) w (w.setCell ⟨B (e-1),12,none⟩ (.pointer (some ⟨b,0,none⟩))):=(Fr.refl _ w).set (fun _=>rfl);have c1:(w.setCell ⟨B (e-1),12,none⟩ (.pointer (some ⟨b,0,none⟩))).cell? ⟨Q,z+2,none⟩=some tv:=(f1.cell h.lt (fun q=>hl.2.1 q.symm)).trans ht
  generalize hw1:w.setCell ⟨B (e-1),12,none⟩ (.pointer (some ⟨b,0,none⟩))=w1 at f1 c1;have hlnk:jK w1 (B (e-1)) (oW kf (e-1)) (some ⟨b,0,none⟩):=by rw[←hw1];exact(h.pr (e-1) (by omega) (by omega)).link _
  have f2:Fr (fun k=>k=Q) w1 (w1.setCell ⟨Q,z+2,none⟩ (.pointer (some ⟨b,0,none⟩))):=(Fr.refl _ w1).set (fun _=>rfl);have hlt1:Q<w1.heap.size:=jY h.lt f1.size
  refine⟨?_,?_,⟨_,iX c1,fun _=>by rw[show e+1-1=e by omega,hue]⟩,?_,?_,h.ap,?_,?_,?_,h.hQ⟩
  ·rw[aS (tW (by omega))];exact(f1.cell h.lt (fun q=>hl.2.1 q.symm)).trans h.cl
  ·rw[aS (tW (by omega)),(f1.cell h.lt (fun q=>hl.2.1 q.symm)).trans h.cf,Jv (B':=AE B e b) (e':=e+1) hlt (by omega) (hub a hlt).symm]
  ·simp only[World.frozen?_setCell];exact⟨(f1.frozen h.lt (fun q=>hl.2.1 q.symm)).trans h.fz.1,(f1.frozen h.lt (fun q=>hl.2.1 q.symm)).trans h.fz.2.1,(f1.frozen h.lt (fun q=>hl.2.1 q.symm)).trans h.fz.2.2⟩
  ·exact f2.owns (f1.owns h.own (fun g hg q=>hl.2.2 (by rw[hg,q]))) (fun g hg q=>h.ap g hg q)
  ·intro j j1 j2;by_cases e1:j=e
   ·subst e1;rw[hue,if_neg (by omega)];exact(hb.fr f1 (fun q=>hbB (j-1) (by omega) (by omega) q.symm)).fr f2 hbQ
   ·rw[hub j (by omega),if_pos (by omega)];by_cases e2:j=e-1
    ·have e3:j+1=e:=by omega
     rw[e3,hue,e2];exact hlnk.fr f2 hl.2.1
    ·rw[hub (j+1) (by omega)];have:=h.pr j j1 (by omega)
     rw[if_pos (by omega)]at this;exact(this.fr f1 (h.inj j (e-1) j1 (by omega) (by omega))).fr f2 (h.bk j j1 (by omega)).2.1
  ·intro j j1 j2;by_cases e1:j=e
   ·subst e1;rw[hue];exact⟨hlo,hbQ,hbl⟩
   ·rw[hub j (by omega)];exact h.bk j j1 (by omega)
  ·intro i j i1 i2 i3;rw[hub i (by omega)];by_cases e1:j=e
   ·subst e1;rw[hue];exact hbB i i1 (by omega)
   ·rw[hub j (by omega)];exact h.inj i j i1 i2 (by omega)
 ·rw[if_neg hlt];have hea:a=e:=by omega
  subst hea;have f1:Fr (fun k=>k=Q) w (w.setCell ⟨Q,z+1,none⟩ (.pointer (some ⟨b,0,none⟩))):=(Fr.refl _ w).set (fun _=>rfl)
  have f2:Fr (fun k=>k=Q) w ((w.setCell ⟨Q,z+1,none⟩ (.pointer (some ⟨b,0,none⟩))).setCell ⟨Q,z+2,none⟩ (.pointer (some ⟨b,0,none⟩))):=f1.set (fun _=>rfl);have c1:(w.setCell ⟨Q,z+1,none⟩ (.pointer (some ⟨b,0,none⟩))).cell? ⟨Q,z+2,none⟩=some tv:=(aS (tW (by omega))).trans ht
  refine⟨?_,?_,⟨_,iX c1,fun _=>by rw[show a+1-1=a by omega,hue]⟩,?_,?_,h.ap,?_,?_,?_,h.hQ⟩
  ·rw[aS (tW (by omega)),aS (tW (by omega))];exact h.cl
  ·rw[aS (tW (by omega)),iX h.cf];unfold qF;rw[if_pos (by omega),hue]
  ·simp only[World.frozen?_setCell];exact h.fz
  ·exact f2.owns h.own (fun g hg q=>h.ap g hg q)
  ·intro j j1 j2;obtain rfl:j=a:=by omega
   rw[hue,if_neg (by omega)];exact hb.fr f2 hbQ
  ·intro j j1 j2;obtain rfl:j=a:=by omega
   rw[hue];exact⟨hlo,hbQ,hbl⟩
  ·intro i j i1 i2 i3;omega
theorem lQ.pop {w:World} {lo Q z:Nat} {lv:Value} {m:Nat} {kf:Nat→T} {B:Nat→Nat} {a e:Nat} (h:lQ w lo Q z lv m kf B a e) (hlt:a<e):lQ (w.setCell ⟨Q,z+1,none⟩ (.pointer (qF B (a+1) e))) lo Q z lv m kf B (a+1) e∧jK (w.setCell ⟨Q,z+1,none⟩ (.pointer (qF B (a+1) e))) (B a) (oW kf a) (qF B (a+1) e):=by
 have f1:Fr (fun k=>k=Q) w (w.setCell ⟨Q,z+1,none⟩ (.pointer (qF B (a+1) e))):=(Fr.refl _ w).set (fun _=>rfl);obtain⟨tv,ht,ht2⟩:=h.ct;refine⟨⟨?_,iX h.cf,⟨tv,(aS (tW (by omega))).trans ht,fun q=>ht2 hlt⟩,by simp only[World.frozen?_setCell];exact h.fz,f1.owns h.own (fun g hg q=>h.ap g hg q),h.ap,fun j j1 j2=>(h.pr j (by omega) j2).fr f1 (h.bk j (by omega) j2).2.1,fun j j1 j2=>h.bk j (by omega) j2,fun i j i1 i2 i3=>h.inj i j (by omega) i2 i3,h.hQ⟩,?_⟩
 ·rw[aS (tW (by omega))];exact h.cl
 ·exact(h.pr a (Nat.le_refl _) hlt).fr f1 (h.bk a (Nat.le_refl _) hlt).2.1
theorem IA (w:World) (lo Q z:Nat) (lv:Value) (m:Nat) (kf:Nat→T) (B:Nat→Nat) (a e:Nat) (h:lQ w lo Q z lv m kf B a e) (hlt:¬a<e):Calls Tryz.prog 80 #[.pointer (some ⟨Q,z,none⟩)] w fun r w'=>r= .returned (.pointer none)∧w'=w:=by
 have c0:=h.cf;have e0:qF B a e=none:=if_neg hlt
 rw[e0]at c0;clear h e0;go_enter Tryz.func80,Tryz.ntmps80;go_wp2;go_ret;exact⟨rfl,rfl⟩
theorem Fr.step {P P':Nat→Prop} {a b c:World} (h:Fr P a b) (k:Fr P' b c) (hp:∀i,i<a.heap.size→P' i→P i):Fr P a c:=
 ⟨k.os.trans h.os,k.tape.trans h.tape,k.output.trans h.output,jZ h.size k.size,fun i hi hn=>(k.block i (jY hi h.size) (fun e=>hn (hp i hi e))).trans (h.block i hi hn)⟩
abbrev xS (u:World) (b1 b2 Q z:Nat) (t1 t2:T) (lv:Value):Prop:=
 u.cell? ⟨b1,0,none⟩=some (.int .i64 t1.c)∧u.cell? ⟨b1,1,none⟩=some (.int .i64 t1.m.x)∧u.cell? ⟨b1,2,none⟩=some (.int .i64 t1.m.y)∧u.cell? ⟨b1,3,none⟩=some (.int .i64 t1.m.d)∧u.cell? ⟨b1,4,none⟩=some (.int .i64 t1.m.e)∧u.cell? ⟨b2,0,none⟩=some (.int .i64 t2.c)∧u.cell? ⟨b2,1,none⟩=some (.int .i64 t2.m.x)∧u.cell? ⟨b2,2,none⟩=some (.int .i64 t2.m.y)∧u.cell? ⟨b2,3,none⟩=some (.int .i64 t2.m.d)∧u.cell? ⟨b2,4,none⟩=some (.int .i64 t2.m.e)∧u.cell? ⟨Q,z,none⟩=some lv
theorem xS.mk {u:World} {b1 b2 Q z:Nat} {t1 t2:T} {lv:Value} (h1:C5 u b1 t1) (h2:C5 u b2 t2) (h3:u.cell? ⟨Q,z,none⟩=some lv):xS u b1 b2 Q z t1 t2 lv:=⟨h1.1,h1.2.1,h1.2.2.1,h1.2.2.2.1,h1.2.2.2.2,h2.1,h2.2.1,h2.2.2.1,h2.2.2.2.1,h2.2.2.2.2,h3⟩
theorem xS.below {u u':World} {b1 b2 Q z:Nat} {t1 t2:T} {lv:Value} (h:xS u b1 b2 Q z t1 t2 lv) (hb:Below u.heap.size u u'):xS u' b1 b2 Q z t1 t2 lv:=by
 obtain⟨a0,a1,a2,a3,a4,c0,c1,c2,c3,c4,d0⟩:=h;have l1:=cX u _ a0
 have l2:=cX u _ c0;have l3:=cX u _ d0
 exact⟨(hb.cell (p:=⟨b1,0,none⟩) l1).trans a0,(hb.cell (p:=⟨b1,1,none⟩) l1).trans a1,(hb.cell (p:=⟨b1,2,none⟩) l1).trans a2,(hb.cell (p:=⟨b1,3,none⟩) l1).trans a3,(hb.cell (p:=⟨b1,4,none⟩) l1).trans a4,(hb.cell (p:=⟨b2,0,none⟩) l2).trans c0,(hb.cell (p:=⟨b2,1,none⟩) l2).trans c1,(hb.cell (p:=⟨b2,2,none⟩) l2).trans c2,(hb.cell (p:=⟨b2,3,none⟩) l2).trans c3,(hb.cell (p:=⟨b2,4,none⟩) l2).trans c4,(hb.cell (p:=⟨Q,z,none⟩) l3).trans d0⟩
theorem xS.fr {P:Nat→Prop} {u u':World} {b1 b2 Q z:Nat} {t1 t2:T} {lv:Value} (h:xS u b1 b2 Q z t1 t2 lv) (hf:Fr P u u') (h1:¬P b1) (h2:¬P b2) (h3:u'.cell? ⟨Q,z,none⟩=some lv):xS u' b1 b2 Q z t1 t2 lv:=by
 obtain⟨a0,a1,a2,a3,a4,c0,c1,c2,c3,c4,d0⟩:=h;have l1:=cX u _ a0
 have l2:=cX u _ c0;exact⟨(hf.cell l1 h1).trans a0,(hf.cell l1 h1).trans a1,(hf.cell l1 h1).trans a2,(hf.cell l1 h1).trans a3,(hf.cell l1 h1).trans a4,(hf.cell l2 h2).trans c0,(hf.cell l2 h2).trans c1,(hf.cell l2 h2).trans c2,(hf.cell l2 h2).trans c3,(hf.cell l2 h2).trans c4,h3⟩
theorem xS.c5 {u:World} {b1 b2 Q z:Nat} {t1 t2:T} {lv:Value} (h:xS u b1 b2 Q z t1 t2 lv):C5 u b2 t2:=⟨h.2.2.2.2.2.1,h.2.2.2.2.2.2.1,h.2.2.2.2.2.2.2.1,h.2.2.2.2.2.2.2.2.1,h.2.2.2.2.2.2.2.2.2.1⟩
theorem JE {w w':World} {row:Option Nat} (hg:w.grownBy w' row) {b o:Nat} (hb:b<w.heap.size) (hne:¬row=some b):w'.cell? ⟨b,o,none⟩=w.cell? ⟨b,o,none⟩:=mB (w:=w) (a:=⟨b,o,none⟩) (hg.block b hb (fun e=>hne e.symm))
theorem yE {w w':World} {row:Option Nat} (hg:w.grownBy w' row) {b o:Nat} (hb:b<w.heap.size) (hne:¬row=some b):w'.frozen? ⟨b,o,none⟩=w.frozen? ⟨b,o,none⟩:=World.frozen?_of_block (w:=w) (a:=⟨b,o,none⟩) (hg.block b hb (fun e=>hne e.symm))
theorem OX (kf:Nat→T) (m:Nat):(List.range (m+1)).map kf=(List.range m).map kf++[kf m]:=by simp[List.range_succ]
theorem Cy (kf:Nat→T) {m i:Nat} (h:i<m):lf ((List.range m).map kf) i=kf i:=by rw[jA (by simpa using h)];simp
theorem lQ.lead {w w':World} {lo Q z:Nat} {lv lv':Value} {m:Nat} {kf:Nat→T} {B:Nat→Nat} {a e:Nat} (h:lQ w lo Q z lv m kf B a e) {row:Option Nat} (hg:w.grownBy w' row) (hr:row=lv.ownBlock) (ho:w'.ownsRow lo 42 5 lv' ((List.range (m+1)).map kf).length (aE ((List.range (m+1)).map kf))) (hl:∀g,lv'.ownBlock=some g→lv.ownBlock=some g∨g=w.heap.size):lQ (w'.setCell ⟨Q,z,none⟩ lv') lo Q z lv' (m+1) kf B a e:=by
 have f1:Fr (fun k=>lv.ownBlock=some k) w w':=(Fr.refl _ w).grown hg (fun g e _=>by rw[hr]at e;exact e);have f2:Fr (fun k=>k=Q) w' (w'.setCell ⟨Q,z,none⟩ lv'):=(Fr.refl _ w').set (fun _=>rfl)
 have nQ:¬lv.ownBlock=some Q:=fun e=>h.ap Q e rfl;have hlt:Q<w.heap.size:=h.lt
 have ap':∀g,lv'.ownBlock=some g→g≠Q:=fun g hg'=>by
  rcases hl g hg' with q|q
  ·exact h.ap g q
  ·omega
 refine⟨iX ((f1.cell h.lt nQ).trans h.cl),?_,?_,?_,f2.owns ho (fun g hg' q=>ap' g hg' q),ap',?_,?_,h.inj,h.hQ⟩
 ·rw[aS (tW (by omega))];exact(f1.cell h.lt nQ).trans h.cf
 ·obtain⟨v,c1,c2⟩:=h.ct;exact⟨v,by rw[aS (tW (by omega))];exact(f1.cell h.lt nQ).trans c1,c2⟩
 ·simp only[World.frozen?_setCell];exact⟨(f1.frozen h.lt nQ).trans h.fz.1,(f1.frozen h.lt nQ).trans h.fz.2.1,(f1.frozen h.lt nQ).trans h.fz.2.2⟩
 ·exact fun j j1 j2=>((h.pr j j1 j2).fr f1 (h.bk j j1 j2).2.2).fr f2 (h.bk j j1 j2).2.1
 ·intro j j1 j2;refine⟨(h.bk j j1 j2).1,(h.bk j j1 j2).2.1,fun q=>?_⟩;rcases hl _ q with q'|q'
  ·exact(h.bk j j1 j2).2.2 q'
  ·have:=(h.pr j j1 j2).lt;omega
theorem lQ.congr {w:World} {lo Q z:Nat} {lv:Value} {m:Nat} {kf kf':Nat→T} {B:Nat→Nat} {a e:Nat} (h:lQ w lo Q z lv m kf B a e) (he:e≤aZ m) (hk:∀i,i<m→kf i=kf' i):lQ w lo Q z lv m kf' B a e:=by have hmap:(List.range m).map kf=(List.range m).map kf':=List.map_congr_left fun i hi=>hk i (List.mem_range.1 hi);refine⟨h.cl,h.cf,h.ct,h.fz,by rw[←hmap];exact h.own,h.ap,fun j j1 j2=>?_,h.bk,h.inj,h.hQ⟩;rw[←YV (m:=m) hk (by omega)];exact h.pr j j1 j2
theorem lQ.put {w:World} {lo Q z:Nat} {lv:Value} {m:Nat} {kf:Nat→T} {B:Nat→Nat} {a e:Nat} (h:lQ w lo Q z lv m kf B a e) {x:Nat} (hx:x≠z∧x≠z+1∧x≠z+2) (v:Value):lQ (w.setCell ⟨Q,x,none⟩ v) lo Q z lv m kf B a e:=by have f1:Fr (fun k=>k=Q) w (w.setCell ⟨Q,x,none⟩ v):=(Fr.refl _ w).set (fun _=>rfl);exact⟨(aS (tW hx.1)).trans h.cl,(aS (tW hx.2.1)).trans h.cf,h.ct.imp fun v ⟨c1,c2⟩=>⟨(aS (tW hx.2.2)).trans c1,c2⟩,by simp only[World.frozen?_setCell];exact h.fz,f1.owns h.own (fun g hg q=>h.ap g hg q),h.ap,fun j i1 i2=>(h.pr j i1 i2).fr f1 (h.bk j i1 i2).2.1,h.bk,h.inj,h.hQ⟩
end Go.Proofs.YtdidlcjhodejjaaGreat
