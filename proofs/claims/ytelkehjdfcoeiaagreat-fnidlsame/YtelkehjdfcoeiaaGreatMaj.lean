/-
  The two terms of a pair of operators: the program and the model.
-/
import Derived.Test.YtelkehjdfcoeiaaGreatMai
set_option maxHeartbeats 4000000
set_option maxRecDepth 100000
namespace Go.Proofs.YtelkehjdfcoeiaaGreat
open Go.RowKit Go.Deep Go.Joins
set_option linter.unusedVariables false
def iR (l:T) (b:M):T:=⟨kE l.c,(M.over b l.m).1⟩
def fM (o:Int) (n:Nat) (f:Nat→T) (m:Nat) (g:Nat→T):Bool:=bF o n f&&bF o m g
def nM (o:Int) (n:Nat) (f:Nat→T) (m:Nat) (g:Nat→T):M:=M.both (bN o n f).m (bN o m g).m
def eZ (o:Int) (n:Nat) (f:Nat→T) (m:Nat) (g:Nat→T):T:=if fM o n f m g=true then iR (bN o n f) (nM o n f m g)else bJ
def fC (o:Int) (n:Nat) (f:Nat→T) (m:Nat) (g:Nat→T):T:=if fM o n f m g=true then iR (bN o m g) (nM o n f m g)else bJ
theorem Ef {B:Nat} {a w:World} {O:Obj} (h:Below a.heap.size a w) (hB:a.heap.size≤B) (u0 u1 u2 u3 u4:Value):Below a.heap.size a ((((((w.setCell ⟨B,0,none⟩ u0).setCell ⟨B,1,none⟩ u1).setCell ⟨B,2,none⟩ u2).setCell ⟨B,3,none⟩ u3).setCell ⟨B,4,none⟩ u4).alloc O).drew:=
 have k:=cB h hB u0 u1 u2 u3 u4
 (k.alloc k.size O).drew
abbrev TL (A B C:Nat) (s t:T) (m:M) (u:World):Prop:=u.cell? ⟨A,0,none⟩=some (.int .i64 s.c)∧u.cell? ⟨A,1,none⟩=some (.int .i64 s.m.x)∧u.cell? ⟨A,2,none⟩=some (.int .i64 s.m.y)∧u.cell? ⟨A,3,none⟩=some (.int .i64 s.m.d)∧u.cell? ⟨A,4,none⟩=some (.int .i64 s.m.e)∧u.cell? ⟨B,0,none⟩=some (.int .i64 t.c)∧u.cell? ⟨B,1,none⟩=some (.int .i64 t.m.x)∧u.cell? ⟨B,2,none⟩=some (.int .i64 t.m.y)∧u.cell? ⟨B,3,none⟩=some (.int .i64 t.m.d)∧u.cell? ⟨B,4,none⟩=some (.int .i64 t.m.e)∧u.cell? ⟨C,0,none⟩=some (.int .i64 m.x)∧u.cell? ⟨C,1,none⟩=some (.int .i64 m.y)∧u.cell? ⟨C,2,none⟩=some (.int .i64 m.d)∧u.cell? ⟨C,3,none⟩=some (.int .i64 m.e)
theorem TL.below {A B C:Nat} {s t:T} {m:M} {u u':World} (h:TL A B C s t m u) (hb:Below u.heap.size u u'):TL A B C s t m u':=
 have l1:=dD u ⟨A,0,none⟩ h.1;have l2:=dD u ⟨B,0,none⟩ h.2.2.2.2.2.1
 have l3:=dD u ⟨C,0,none⟩ h.2.2.2.2.2.2.2.2.2.2.1
 ⟨(hb.cell (p:=⟨A,0,none⟩) l1).trans h.1,(hb.cell (p:=⟨A,1,none⟩) l1).trans h.2.1,(hb.cell (p:=⟨A,2,none⟩) l1).trans h.2.2.1,(hb.cell (p:=⟨A,3,none⟩) l1).trans h.2.2.2.1,(hb.cell (p:=⟨A,4,none⟩) l1).trans h.2.2.2.2.1,(hb.cell (p:=⟨B,0,none⟩) l2).trans h.2.2.2.2.2.1,(hb.cell (p:=⟨B,1,none⟩) l2).trans h.2.2.2.2.2.2.1,(hb.cell (p:=⟨B,2,none⟩) l2).trans h.2.2.2.2.2.2.2.1,(hb.cell (p:=⟨B,3,none⟩) l2).trans h.2.2.2.2.2.2.2.2.1,(hb.cell (p:=⟨B,4,none⟩) l2).trans h.2.2.2.2.2.2.2.2.2.1,(hb.cell (p:=⟨C,0,none⟩) l3).trans h.2.2.2.2.2.2.2.2.2.2.1,(hb.cell (p:=⟨C,1,none⟩) l3).trans h.2.2.2.2.2.2.2.2.2.2.2.1,(hb.cell (p:=⟨C,2,none⟩) l3).trans h.2.2.2.2.2.2.2.2.2.2.2.2.1,(hb.cell (p:=⟨C,3,none⟩) l3).trans h.2.2.2.2.2.2.2.2.2.2.2.2.2⟩
theorem oC {w:World} {B b o:Nat} {v0 v1 v2 v3 v4 v5 v6 v7 v8 v9:Value} (h:b≠B):((((((((((w.setCell ⟨B,0,none⟩ v0).setCell ⟨B,1,none⟩ v1).setCell ⟨B,2,none⟩ v2).setCell ⟨B,3,none⟩ v3).setCell ⟨B,4,none⟩ v4).setCell ⟨B,5,none⟩ v5).setCell ⟨B,6,none⟩ v6).setCell ⟨B,7,none⟩ v7).setCell ⟨B,8,none⟩ v8).setCell ⟨B,9,none⟩ v9).cell? ⟨b,o,none⟩=w.cell? ⟨b,o,none⟩:=by refine lM ?_;rw[Below.heap_setCell _ _ _ _ h,Below.heap_setCell _ _ _ _ h,Below.heap_setCell _ _ _ _ h,Below.heap_setCell _ _ _ _ h,Below.heap_setCell _ _ _ _ h,Below.heap_setCell _ _ _ _ h,Below.heap_setCell _ _ _ _ h,Below.heap_setCell _ _ _ _ h,Below.heap_setCell _ _ _ _ h,Below.heap_setCell _ _ _ _ h]
def Nq (D:Nat) (u:World):Prop:=(∀i,i<10→u.cell? ⟨D,i,none⟩=some (.int .i64 0))∧∀i,u.frozen? ⟨D,i,none⟩=false
theorem Nq.below {D:Nat} {u u':World} (h:Nq D u) (hb:Below u.heap.size u u'):Nq D u':=
 have l:=dD u ⟨D,0,none⟩ (h.1 0 (by omega))
 ⟨fun i hi=>(hb.cell (p:=⟨D,i,none⟩) l).trans (h.1 i hi),fun i=>(hb.frozen (p:=⟨D,i,none⟩) l).trans (h.2 i)⟩
theorem TM {A B C:Nat} {s t:T} {m:M} {u:World} {D:Nat} {v0 v1 v2 v3 v4 v5 v6 v7 v8 v9:Value} (h:TL A B C s t m u) (h1:A≠D) (h2:B≠D) (h3:C≠D):TL A B C s t m ((((((((((u.setCell ⟨D,0,none⟩ v0).setCell ⟨D,1,none⟩ v1).setCell ⟨D,2,none⟩ v2).setCell ⟨D,3,none⟩ v3).setCell ⟨D,4,none⟩ v4).setCell ⟨D,5,none⟩ v5).setCell ⟨D,6,none⟩ v6).setCell ⟨D,7,none⟩ v7).setCell ⟨D,8,none⟩ v8).setCell ⟨D,9,none⟩ v9):=
 ⟨(oC h1).trans h.1,(oC h1).trans h.2.1,(oC h1).trans h.2.2.1,(oC h1).trans h.2.2.2.1,(oC h1).trans h.2.2.2.2.1,(oC h2).trans h.2.2.2.2.2.1,(oC h2).trans h.2.2.2.2.2.2.1,(oC h2).trans h.2.2.2.2.2.2.2.1,(oC h2).trans h.2.2.2.2.2.2.2.2.1,(oC h2).trans h.2.2.2.2.2.2.2.2.2.1,(oC h3).trans h.2.2.2.2.2.2.2.2.2.2.1,(oC h3).trans h.2.2.2.2.2.2.2.2.2.2.2.1,(oC h3).trans h.2.2.2.2.2.2.2.2.2.2.2.2.1,(oC h3).trans h.2.2.2.2.2.2.2.2.2.2.2.2.2⟩
theorem Ee {n B:Nat} {a w:World} (h:Below n a w) (hB:n≤B) (v0 v1 v2 v3 v4 v5 v6 v7 v8 v9:Value):Below n a ((((((((((w.setCell ⟨B,0,none⟩ v0).setCell ⟨B,1,none⟩ v1).setCell ⟨B,2,none⟩ v2).setCell ⟨B,3,none⟩ v3).setCell ⟨B,4,none⟩ v4).setCell ⟨B,5,none⟩ v5).setCell ⟨B,6,none⟩ v6).setCell ⟨B,7,none⟩ v7).setCell ⟨B,8,none⟩ v8).setCell ⟨B,9,none⟩ v9):=
 (((((((((h.setCell hB v0).setCell hB v1).setCell hB v2).setCell hB v3).setCell hB v4).setCell hB v5).setCell hB v6).setCell hB v7).setCell hB v8).setCell hB v9
theorem CJ (w:World) (l:T) (b:M):Calls Tryz.prog 171 #[.agg #[.int .i64 l.c,.int .i64 l.m.x,.int .i64 l.m.y,.int .i64 l.m.d,.int .i64 l.m.e],.agg #[.int .i64 b.x,.int .i64 b.y,.int .i64 b.d,.int .i64 b.e]] w fun r w'=>r= .returned (.agg #[.int .i64 (iR l b).c,.int .i64 (iR l b).m.x,.int .i64 (iR l b).m.y,.int .i64 (iR l b).m.d,.int .i64 (iR l b).m.e])∧Below w.heap.size w w':=by
 obtain⟨m,bv,hm⟩:∃m bv,M.over ⟨b.x,b.y,b.d,b.e⟩ ⟨l.m.x,l.m.y,l.m.d,l.m.e⟩=(m,bv):=⟨_,_,rfl⟩
 have e1:iR l b=⟨kE l.c,m⟩:=by unfold iR;rw[show M.over b l.m=(m,bv)from hm]
 rw[e1];clear e1;go_enter Tryz.func171,Tryz.ntmps171;go_wp2_with fail;refine(yQ hm _).mono ?_;rintro r w1 ⟨rfl,hb1⟩;obtain⟨hc1,hf1⟩:=aN hb1;have hz1:w.heap.size+1+1<w1.heap.size:=by have:=hb1.size;simp at this;omega
 have HB1:=aA (aB (aX w _ _ _) hb1);have q0:w1.cell? ⟨w.heap.size,0,none⟩=some (.int .i64 l.c):=by go_simp
 have t0:w1.cell? ⟨w.heap.size+1+1,0,none⟩=some (.int .i64 0):=by go_simp
 have t1:w1.cell? ⟨w.heap.size+1+1,1,none⟩=some (.int .i64 0):=by go_simp
 have t2:w1.cell? ⟨w.heap.size+1+1,2,none⟩=some (.int .i64 0):=by go_simp
 have t3:w1.cell? ⟨w.heap.size+1+1,3,none⟩=some (.int .i64 0):=by go_simp
 have t4:w1.cell? ⟨w.heap.size+1+1,4,none⟩=some (.int .i64 0):=by go_simp
 have z0:∀i,w1.frozen? ⟨w.heap.size+1+1,i,none⟩=false:=fun i=>by go_simp
 have hz2:w.heap.size<w1.heap.size:=by omega
 have HB2:=aA (HB1.out.alloc HB1.out.size (.cells #[.int .i64 m.x,.int .i64 m.y,.int .i64 m.d,.int .i64 m.e] 84));have hS:L5 w.heap.size 0 w1.heap.size (.int .i64 l.c) m (w1.alloc (.cells #[.int .i64 m.x,.int .i64 m.y,.int .i64 m.d,.int .i64 m.e] 84)).drew:=by have h4:=M4.box w1 84 m.x m.y m.d m.e;exact⟨(JB _ _ _ hz2).trans q0,h4.1,h4.2.1,h4.2.2.1,h4.2.2.2⟩
 clear hc1 hf1 hb1 hm;go_wp2_with fail;obtain⟨p0,p1,p2,p3,p4⟩:=hS
 go_region_with (first|(go_at_call 132;refine(Lz _ _).mono ?_;rintro r w7 ⟨rfl,hw7⟩;obtain rfl:=hw7.symm;clear hw7))
 all_goals
  go_wp2;refine cD (v:=.agg #[.int .i64 (kE l.c),.int .i64 m.x,.int .i64 m.y,.int .i64 m.d,.int .i64 m.e]) (by simp[results,Tryz.results171,go_sem, *]) rfl ⟨rfl,?_⟩;exact Ef HB1.out (by omega) _ _ _ _ _
theorem Cs (w:World) (la lb:T):Calls Tryz.prog 143 #[.agg #[.int .i64 la.c,.int .i64 la.m.x,.int .i64 la.m.y,.int .i64 la.m.d,.int .i64 la.m.e],.agg #[.int .i64 lb.c,.int .i64 lb.m.x,.int .i64 lb.m.y,.int .i64 lb.m.d,.int .i64 lb.m.e]] w fun r w'=>r= .returned (.agg #[.int .i64 (iR la (M.both la.m lb.m)).c,.int .i64 (iR la (M.both la.m lb.m)).m.x,.int .i64 (iR la (M.both la.m lb.m)).m.y,.int .i64 (iR la (M.both la.m lb.m)).m.d,.int .i64 (iR la (M.both la.m lb.m)).m.e,.int .i64 (iR lb (M.both la.m lb.m)).c,.int .i64 (iR lb (M.both la.m lb.m)).m.x,.int .i64 (iR lb (M.both la.m lb.m)).m.y,.int .i64 (iR lb (M.both la.m lb.m)).m.d,.int .i64 (iR lb (M.both la.m lb.m)).m.e])∧Below w.heap.size w w':=by
 obtain⟨m,hm⟩:∃m,M.both ⟨la.m.x,la.m.y,la.m.d,la.m.e⟩ ⟨lb.m.x,lb.m.y,lb.m.d,lb.m.e⟩=m:=⟨_,rfl⟩
 rw[show M.both la.m lb.m=m from hm];obtain⟨U,hU⟩:∃U,iR la m=U:=⟨_,rfl⟩
 obtain⟨V,hV⟩:∃V,iR lb m=V:=⟨_,rfl⟩
 rw[hU,hV];have c1:=fun W=>CJ W la m
 have c2:=fun W=>CJ W lb m;rw[hU]at c1;rw[hV]at c2;clear hU hV;go_enter Tryz.func143,Tryz.ntmps143;go_wp2_with fail;refine(KZ hm _).mono ?_;rintro r w1 ⟨rfl,hb1⟩;obtain⟨hc1,hf1⟩:=aN hb1;have hz1:w.heap.size+1+1<w1.heap.size:=by have:=hb1.size;simp at this;omega
 have HB1:=aA (aB (aX w _ _ _) hb1);have hS:TL w.heap.size (w.heap.size+1) w1.heap.size la lb m (w1.alloc (.cells #[.int .i64 m.x,.int .i64 m.y,.int .i64 m.d,.int .i64 m.e] 84)).drew:=by
  have h4:=M4.box w1 84 m.x m.y m.d m.e;have k1:w.heap.size<w1.heap.size:=by omega
  have k2:w.heap.size+1<w1.heap.size:=by omega
  refine⟨(JB _ _ _ k1).trans (by go_simp),(JB _ _ _ k1).trans (by go_simp),(JB _ _ _ k1).trans (by go_simp),(JB _ _ _ k1).trans (by go_simp),(JB _ _ _ k1).trans (by go_simp),(JB _ _ _ k2).trans (by go_simp),(JB _ _ _ k2).trans (by go_simp),(JB _ _ _ k2).trans (by go_simp),(JB _ _ _ k2).trans (by go_simp),(JB _ _ _ k2).trans (by go_simp),h4.1,h4.2.1,h4.2.2.1,h4.2.2.2⟩
 have hZ:Nq (w.heap.size+1+1) (w1.alloc (.cells #[.int .i64 m.x,.int .i64 m.y,.int .i64 m.d,.int .i64 m.e] 84)).drew:=by
  refine⟨fun i hi=>(JB _ _ _ hz1).trans ?_,fun i=>((aC w1 _).frozen (p:=⟨w.heap.size+1+1,i,none⟩) hz1).trans (by go_simp)⟩;have h10:i=0∨i=1∨i=2∨i=3∨i=4∨i=5∨i=6∨i=7∨i=8∨i=9:=by omega
  rcases h10 with rfl|rfl|rfl|rfl|rfl|rfl|rfl|rfl|rfl|rfl<;>go_simp
 have HZ:=aA hZ;clear hm hb1 hc1 hf1 hZ;have hz2:w.heap.size+1<w1.heap.size:=by omega
 have hz3:w.heap.size<w1.heap.size:=by omega
 have HB2:=aA (HB1.out.alloc HB1.out.size (.cells #[.int .i64 m.x,.int .i64 m.y,.int .i64 m.d,.int .i64 m.e] 84));go_wp2_with fail
 go_region_held3 (fun u=>u.cell? ⟨w.heap.size,0,none⟩=some (.int .i64 la.c)∧u.cell? ⟨w.heap.size,1,none⟩=some (.int .i64 la.m.x)∧u.cell? ⟨w.heap.size,2,none⟩=some (.int .i64 la.m.y)∧u.cell? ⟨w.heap.size,3,none⟩=some (.int .i64 la.m.d)∧u.cell? ⟨w.heap.size,4,none⟩=some (.int .i64 la.m.e)∧u.cell? ⟨w.heap.size+1,0,none⟩=some (.int .i64 lb.c)∧u.cell? ⟨w.heap.size+1,1,none⟩=some (.int .i64 lb.m.x)∧u.cell? ⟨w.heap.size+1,2,none⟩=some (.int .i64 lb.m.y)∧u.cell? ⟨w.heap.size+1,3,none⟩=some (.int .i64 lb.m.d)∧u.cell? ⟨w.heap.size+1,4,none⟩=some (.int .i64 lb.m.e)∧u.cell? ⟨w1.heap.size,0,none⟩=some (.int .i64 m.x)∧u.cell? ⟨w1.heap.size,1,none⟩=some (.int .i64 m.y)∧u.cell? ⟨w1.heap.size,2,none⟩=some (.int .i64 m.d)∧u.cell? ⟨w1.heap.size,3,none⟩=some (.int .i64 m.e)) (first|with_reducible exact hS|with_reducible exact TL.below hS b1|with_reducible exact TL.below (TL.below hS b1) b2|with_reducible exact TM (TL.below (TL.below hS b1) b2) (by omega) (by omega) (by omega)) (first|(go_at_call_of 171 (Value.agg #[Value.int .i64 la.c,Value.int .i64 la.m.x,Value.int .i64 la.m.y,Value.int .i64 la.m.d,Value.int .i64 la.m.e]);refine(c1 _).mono ?_;rintro r w2 ⟨rfl,b1⟩)|(go_at_call_of 171 (Value.agg #[Value.int .i64 lb.c,Value.int .i64 lb.m.x,Value.int .i64 lb.m.y,Value.int .i64 lb.m.d,Value.int .i64 lb.m.e]);refine(c2 _).mono ?_;rintro r w3 ⟨rfl,b2⟩;have hZ3:=(HZ.out.below b1).below b2;have d0:=hZ3.1 0 (by omega);have d1:=hZ3.1 1 (by omega);have d2:=hZ3.1 2 (by omega);have d3:=hZ3.1 3 (by omega);have d4:=hZ3.1 4 (by omega);have d5:=hZ3.1 5 (by omega);have d6:=hZ3.1 6 (by omega);have d7:=hZ3.1 7 (by omega);have d8:=hZ3.1 8 (by omega);have d9:=hZ3.1 9 (by omega);have dz:=hZ3.2;clear hZ3))
 have HB4:=aA (aB (aB HB2.out.drew b1) b2);go_wp2;refine cD (v:=.agg #[.int .i64 U.c,.int .i64 U.m.x,.int .i64 U.m.y,.int .i64 U.m.d,.int .i64 U.m.e,.int .i64 V.c,.int .i64 V.m.x,.int .i64 V.m.y,.int .i64 V.m.d,.int .i64 V.m.e]) (by simp[results,Tryz.results143,go_sem, *]) rfl ⟨rfl,?_⟩;exact Ee HB4.out (by omega) _ _ _ _ _ _ _ _ _ _
end Go.Proofs.YtelkehjdfcoeiaaGreat
