/-
  Which operators are free of others: the model, and the program's first one that divides.
-/
import Derived.Test.YtdidlcjhodejjaaGreatUaf
import Derived.Test.YtdidlcjhodejjaaGreatUag
import Derived.Test.YtdidlcjhodejjaaGreatUah
import Derived.Deep.RegionHeld3
import Derived.Deep.Light
namespace Go.Proofs.YtdidlcjhodejjaaGreat
open Go.RowKit Go.Deep Go.Joins
set_option linter.unusedVariables false
abbrev L5 (b o B:Nat) (v:Value) (m:M) (u:World):Prop:=u.cell? ⟨b,o,none⟩=some v∧u.cell? ⟨B,0,none⟩=some (.int .i64 m.x)∧u.cell? ⟨B,1,none⟩=some (.int .i64 m.y)∧u.cell? ⟨B,2,none⟩=some (.int .i64 m.d)∧u.cell? ⟨B,3,none⟩=some (.int .i64 m.e)
theorem L5.below {b o B:Nat} {v:Value} {m:M} {u u':World} (h:L5 b o B v m u) (hb:Below u.heap.size u u'):L5 b o B v m u':=
 have l1:=World.block_lt_of_cell? u ⟨b,o,none⟩ h.1
 have l2:=World.block_lt_of_cell? u ⟨B,0,none⟩ h.2.1
 ⟨(hb.cell (p:=⟨b,o,none⟩) l1).trans h.1,(hb.cell (p:=⟨B,0,none⟩) l2).trans h.2.1,(hb.cell (p:=⟨B,1,none⟩) l2).trans h.2.2.1,(hb.cell (p:=⟨B,2,none⟩) l2).trans h.2.2.2.1,(hb.cell (p:=⟨B,3,none⟩) l2).trans h.2.2.2.2⟩
def ldAt (o:Int) (ln:Nat→Nat) (f:Nat→Nat→T) (i:Nat):T:=f i (leadAt o (f i) (ln i))
end Go.Proofs.YtdidlcjhodejjaaGreat
namespace Go.Proofs.YtdidlcjhodejjaaGreat
open Go.RowKit Go.Deep Go.Joins
set_option linter.unusedVariables false
def sprT (l:T) (b:M):T:=⟨fInv l.c,(M.over b l.m).1⟩
def sprOk (o:Int) (n:Nat) (f:Nat→T) (m:Nat) (g:Nat→T):Bool:=leadOk o n f && leadOk o m g
def sprB (o:Int) (n:Nat) (f:Nat→T) (m:Nat) (g:Nat→T):M:=M.both (leadT o n f).m (leadT o m g).m
def sprU (o:Int) (n:Nat) (f:Nat→T) (m:Nat) (g:Nat→T):T:=if sprOk o n f m g=true then sprT (leadT o n f) (sprB o n f m g) else zeroT
def sprV (o:Int) (n:Nat) (f:Nat→T) (m:Nat) (g:Nat→T):T:=if sprOk o n f m g=true then sprT (leadT o m g) (sprB o n f m g) else zeroT
theorem bel_s5a {B:Nat} {a w:World} {O:Obj} (h:Below a.heap.size a w) (hB:a.heap.size≤B) (u0 u1 u2 u3 u4:Value):Below a.heap.size a ((((((w.setCell ⟨B,0,none⟩ u0).setCell ⟨B,1,none⟩ u1).setCell ⟨B,2,none⟩ u2).setCell ⟨B,3,none⟩ u3).setCell ⟨B,4,none⟩ u4).alloc O).drew:=
 have k:=bel_s5 h hB u0 u1 u2 u3 u4
 (k.alloc k.size O).drew
abbrev L14 (A B C:Nat) (s t:T) (m:M) (u:World):Prop:=u.cell? ⟨A,0,none⟩=some (.int .i64 s.c)∧u.cell? ⟨A,1,none⟩=some (.int .i64 s.m.x)∧u.cell? ⟨A,2,none⟩=some (.int .i64 s.m.y)∧u.cell? ⟨A,3,none⟩=some (.int .i64 s.m.d)∧u.cell? ⟨A,4,none⟩=some (.int .i64 s.m.e)∧u.cell? ⟨B,0,none⟩=some (.int .i64 t.c)∧u.cell? ⟨B,1,none⟩=some (.int .i64 t.m.x)∧u.cell? ⟨B,2,none⟩=some (.int .i64 t.m.y)∧u.cell? ⟨B,3,none⟩=some (.int .i64 t.m.d)∧u.cell? ⟨B,4,none⟩=some (.int .i64 t.m.e)∧u.cell? ⟨C,0,none⟩=some (.int .i64 m.x)∧u.cell? ⟨C,1,none⟩=some (.int .i64 m.y)∧u.cell? ⟨C,2,none⟩=some (.int .i64 m.d)∧u.cell? ⟨C,3,none⟩=some (.int .i64 m.e)
theorem L14.below {A B C:Nat} {s t:T} {m:M} {u u':World} (h:L14 A B C s t m u) (hb:Below u.heap.size u u'):L14 A B C s t m u':=
 have l1:=World.block_lt_of_cell? u ⟨A,0,none⟩ h.1
 have l2:=World.block_lt_of_cell? u ⟨B,0,none⟩ h.2.2.2.2.2.1
 have l3:=World.block_lt_of_cell? u ⟨C,0,none⟩ h.2.2.2.2.2.2.2.2.2.2.1
 ⟨(hb.cell (p:=⟨A,0,none⟩) l1).trans h.1,(hb.cell (p:=⟨A,1,none⟩) l1).trans h.2.1,(hb.cell (p:=⟨A,2,none⟩) l1).trans h.2.2.1,(hb.cell (p:=⟨A,3,none⟩) l1).trans h.2.2.2.1,(hb.cell (p:=⟨A,4,none⟩) l1).trans h.2.2.2.2.1,(hb.cell (p:=⟨B,0,none⟩) l2).trans h.2.2.2.2.2.1,(hb.cell (p:=⟨B,1,none⟩) l2).trans h.2.2.2.2.2.2.1,(hb.cell (p:=⟨B,2,none⟩) l2).trans h.2.2.2.2.2.2.2.1,(hb.cell (p:=⟨B,3,none⟩) l2).trans h.2.2.2.2.2.2.2.2.1,(hb.cell (p:=⟨B,4,none⟩) l2).trans h.2.2.2.2.2.2.2.2.2.1,(hb.cell (p:=⟨C,0,none⟩) l3).trans h.2.2.2.2.2.2.2.2.2.2.1,(hb.cell (p:=⟨C,1,none⟩) l3).trans h.2.2.2.2.2.2.2.2.2.2.2.1,(hb.cell (p:=⟨C,2,none⟩) l3).trans h.2.2.2.2.2.2.2.2.2.2.2.2.1,(hb.cell (p:=⟨C,3,none⟩) l3).trans h.2.2.2.2.2.2.2.2.2.2.2.2.2⟩
theorem far10 {w:World} {B b o:Nat} {v0 v1 v2 v3 v4 v5 v6 v7 v8 v9:Value} (h:b≠B):((((((((((w.setCell ⟨B,0,none⟩ v0).setCell ⟨B,1,none⟩ v1).setCell ⟨B,2,none⟩ v2).setCell ⟨B,3,none⟩ v3).setCell ⟨B,4,none⟩ v4).setCell ⟨B,5,none⟩ v5).setCell ⟨B,6,none⟩ v6).setCell ⟨B,7,none⟩ v7).setCell ⟨B,8,none⟩ v8).setCell ⟨B,9,none⟩ v9).cell? ⟨b,o,none⟩=w.cell? ⟨b,o,none⟩:=by
 refine World.cell?_of_block ?_
 rw [Below.heap_setCell _ _ _ _ h,Below.heap_setCell _ _ _ _ h,Below.heap_setCell _ _ _ _ h,Below.heap_setCell _ _ _ _ h,Below.heap_setCell _ _ _ _ h,Below.heap_setCell _ _ _ _ h,Below.heap_setCell _ _ _ _ h,Below.heap_setCell _ _ _ _ h,Below.heap_setCell _ _ _ _ h,Below.heap_setCell _ _ _ _ h]
def Z10 (D:Nat) (u:World):Prop:=(∀ i,i<10→u.cell? ⟨D,i,none⟩=some (.int .i64 0))∧∀ i,u.frozen? ⟨D,i,none⟩=false
theorem Z10.below {D:Nat} {u u':World} (h:Z10 D u) (hb:Below u.heap.size u u'):Z10 D u':=
 have l:=World.block_lt_of_cell? u ⟨D,0,none⟩ (h.1 0 (by omega))
 ⟨fun i hi=>(hb.cell (p:=⟨D,i,none⟩) l).trans (h.1 i hi),fun i=>(hb.frozen (p:=⟨D,i,none⟩) l).trans (h.2 i)⟩
theorem L14.set10 {A B C:Nat} {s t:T} {m:M} {u:World} {D:Nat} {v0 v1 v2 v3 v4 v5 v6 v7 v8 v9:Value} (h:L14 A B C s t m u) (h1:A≠D) (h2:B≠D) (h3:C≠D):L14 A B C s t m ((((((((((u.setCell ⟨D,0,none⟩ v0).setCell ⟨D,1,none⟩ v1).setCell ⟨D,2,none⟩ v2).setCell ⟨D,3,none⟩ v3).setCell ⟨D,4,none⟩ v4).setCell ⟨D,5,none⟩ v5).setCell ⟨D,6,none⟩ v6).setCell ⟨D,7,none⟩ v7).setCell ⟨D,8,none⟩ v8).setCell ⟨D,9,none⟩ v9):=
 ⟨(far10 h1).trans h.1,(far10 h1).trans h.2.1,(far10 h1).trans h.2.2.1,(far10 h1).trans h.2.2.2.1,(far10 h1).trans h.2.2.2.2.1,(far10 h2).trans h.2.2.2.2.2.1,(far10 h2).trans h.2.2.2.2.2.2.1,(far10 h2).trans h.2.2.2.2.2.2.2.1,(far10 h2).trans h.2.2.2.2.2.2.2.2.1,(far10 h2).trans h.2.2.2.2.2.2.2.2.2.1,(far10 h3).trans h.2.2.2.2.2.2.2.2.2.2.1,(far10 h3).trans h.2.2.2.2.2.2.2.2.2.2.2.1,(far10 h3).trans h.2.2.2.2.2.2.2.2.2.2.2.2.1,(far10 h3).trans h.2.2.2.2.2.2.2.2.2.2.2.2.2⟩
theorem bel_s10 {n B:Nat} {a w:World} (h:Below n a w) (hB:n≤B) (v0 v1 v2 v3 v4 v5 v6 v7 v8 v9:Value):Below n a ((((((((((w.setCell ⟨B,0,none⟩ v0).setCell ⟨B,1,none⟩ v1).setCell ⟨B,2,none⟩ v2).setCell ⟨B,3,none⟩ v3).setCell ⟨B,4,none⟩ v4).setCell ⟨B,5,none⟩ v5).setCell ⟨B,6,none⟩ v6).setCell ⟨B,7,none⟩ v7).setCell ⟨B,8,none⟩ v8).setCell ⟨B,9,none⟩ v9):=
 (((((((((h.setCell hB v0).setCell hB v1).setCell hB v2).setCell hB v3).setCell hB v4).setCell hB v5).setCell hB v6).setCell hB v7).setCell hB v8).setCell hB v9
set_option maxRecDepth 100000 in
set_option maxHeartbeats 4000000 in
theorem sprFactorI (w:World) (l:T) (b:M) :
  Calls Tryz.prog 153 #[.agg #[.int .i64 l.c,.int .i64 l.m.x,.int .i64 l.m.y,.int .i64 l.m.d,.int .i64 l.m.e],.agg #[.int .i64 b.x,.int .i64 b.y,.int .i64 b.d,.int .i64 b.e]] w fun r w'=>r=.returned (.agg #[.int .i64 (sprT l b).c,.int .i64 (sprT l b).m.x,.int .i64 (sprT l b).m.y,.int .i64 (sprT l b).m.d,.int .i64 (sprT l b).m.e])∧Below w.heap.size w w':=by
 obtain ⟨m,bv,hm⟩:∃ m bv,M.over ⟨b.x,b.y,b.d,b.e⟩ ⟨l.m.x,l.m.y,l.m.d,l.m.e⟩=(m,bv):=⟨_,_,rfl⟩
 have e1:sprT l b=⟨fInv l.c,m⟩:=by unfold sprT;rw [show M.over b l.m=(m,bv) from hm]
 rw [e1]
 clear e1
 go_enter Tryz.func153,Tryz.ntmps153
 go_wp2_with fail
 refine (monOverI_of hm _).mono ?_
 rintro r w1 ⟨rfl,hb1⟩
 obtain ⟨hc1,hf1⟩:=bcell hb1
 have hz1:w.heap.size+1+1<w1.heap.size:=by have:=hb1.size;simp at this;omega
 have HB1:=Hid.mk' (bel_next (bel_three w _ _ _) hb1)
 have q0:w1.cell? ⟨w.heap.size,0,none⟩=some (.int .i64 l.c):=by go_simp
 have t0:w1.cell? ⟨w.heap.size+1+1,0,none⟩=some (.int .i64 0):=by go_simp
 have t1:w1.cell? ⟨w.heap.size+1+1,1,none⟩=some (.int .i64 0):=by go_simp
 have t2:w1.cell? ⟨w.heap.size+1+1,2,none⟩=some (.int .i64 0):=by go_simp
 have t3:w1.cell? ⟨w.heap.size+1+1,3,none⟩=some (.int .i64 0):=by go_simp
 have t4:w1.cell? ⟨w.heap.size+1+1,4,none⟩=some (.int .i64 0):=by go_simp
 have z0:∀ i,w1.frozen? ⟨w.heap.size+1+1,i,none⟩=false:=fun i=>by go_simp
 have hz2:w.heap.size<w1.heap.size:=by omega
 have HB2:=Hid.mk' (HB1.out.alloc HB1.out.size (.cells #[.int .i64 m.x,.int .i64 m.y,.int .i64 m.d,.int .i64 m.e] 40))
 have hS:L5 w.heap.size 0 w1.heap.size (.int .i64 l.c) m (w1.alloc (.cells #[.int .i64 m.x,.int .i64 m.y,.int .i64 m.d,.int .i64 m.e] 40)).drew:=by
  have h4:=M4.box w1 40 m.x m.y m.d m.e
  exact ⟨(World.cell?_alloc_lt _ _ _ hz2).trans q0,h4.1,h4.2.1,h4.2.2.1,h4.2.2.2⟩
 clear hc1 hf1 hb1 hm
 go_wp2_with fail
 obtain ⟨p0,p1,p2,p3,p4⟩:=hS
 go_region_with (first | (go_at_call 94;refine (invI _ _).mono ?_;rintro r w7 ⟨rfl,hw7⟩;obtain rfl:=hw7.symm;clear hw7))
 all_goals
  go_wp2
  refine bodyPost_ret (v:=.agg #[.int .i64 (fInv l.c),.int .i64 m.x,.int .i64 m.y,.int .i64 m.d,.int .i64 m.e]) (by simp [results,Tryz.results153,go_sem, *]) rfl ⟨rfl,?_⟩
  exact bel_s5a HB1.out (by omega) _ _ _ _ _
set_option maxRecDepth 100000 in
set_option maxHeartbeats 4000000 in
theorem sprOfI (w:World) (la lb:T) :
  Calls Tryz.prog 122 #[.agg #[.int .i64 la.c,.int .i64 la.m.x,.int .i64 la.m.y,.int .i64 la.m.d,.int .i64 la.m.e],.agg #[.int .i64 lb.c,.int .i64 lb.m.x,.int .i64 lb.m.y,.int .i64 lb.m.d,.int .i64 lb.m.e]] w fun r w'=>r=.returned (.agg #[.int .i64 (sprT la (M.both la.m lb.m)).c,.int .i64 (sprT la (M.both la.m lb.m)).m.x,.int .i64 (sprT la (M.both la.m lb.m)).m.y,.int .i64 (sprT la (M.both la.m lb.m)).m.d,.int .i64 (sprT la (M.both la.m lb.m)).m.e,.int .i64 (sprT lb (M.both la.m lb.m)).c,.int .i64 (sprT lb (M.both la.m lb.m)).m.x,.int .i64 (sprT lb (M.both la.m lb.m)).m.y,.int .i64 (sprT lb (M.both la.m lb.m)).m.d,.int .i64 (sprT lb (M.both la.m lb.m)).m.e])∧Below w.heap.size w w':=by
 obtain ⟨m,hm⟩:∃ m,M.both ⟨la.m.x,la.m.y,la.m.d,la.m.e⟩ ⟨lb.m.x,lb.m.y,lb.m.d,lb.m.e⟩=m:=⟨_,rfl⟩
 rw [show M.both la.m lb.m=m from hm]
 obtain ⟨U,hU⟩:∃ U,sprT la m=U:=⟨_,rfl⟩
 obtain ⟨V,hV⟩:∃ V,sprT lb m=V:=⟨_,rfl⟩
 rw [hU,hV]
 have c1:=fun W=>sprFactorI W la m
 have c2:=fun W=>sprFactorI W lb m
 rw [hU] at c1
 rw [hV] at c2
 clear hU hV
 go_enter Tryz.func122,Tryz.ntmps122
 go_wp2_with fail
 refine (monBothI_of hm _).mono ?_
 rintro r w1 ⟨rfl,hb1⟩
 obtain ⟨hc1,hf1⟩:=bcell hb1
 have hz1:w.heap.size+1+1<w1.heap.size:=by have:=hb1.size;simp at this;omega
 have HB1:=Hid.mk' (bel_next (bel_three w _ _ _) hb1)
 have hS:L14 w.heap.size (w.heap.size+1) w1.heap.size la lb m (w1.alloc (.cells #[.int .i64 m.x,.int .i64 m.y,.int .i64 m.d,.int .i64 m.e] 40)).drew:=by
  have h4:=M4.box w1 40 m.x m.y m.d m.e
  have k1:w.heap.size<w1.heap.size:=by omega
  have k2:w.heap.size+1<w1.heap.size:=by omega
  refine ⟨(World.cell?_alloc_lt _ _ _ k1).trans (by go_simp),(World.cell?_alloc_lt _ _ _ k1).trans (by go_simp),(World.cell?_alloc_lt _ _ _ k1).trans (by go_simp),(World.cell?_alloc_lt _ _ _ k1).trans (by go_simp),(World.cell?_alloc_lt _ _ _ k1).trans (by go_simp),(World.cell?_alloc_lt _ _ _ k2).trans (by go_simp),(World.cell?_alloc_lt _ _ _ k2).trans (by go_simp),(World.cell?_alloc_lt _ _ _ k2).trans (by go_simp),(World.cell?_alloc_lt _ _ _ k2).trans (by go_simp),(World.cell?_alloc_lt _ _ _ k2).trans (by go_simp),h4.1,h4.2.1,h4.2.2.1,h4.2.2.2⟩
 have hZ:Z10 (w.heap.size+1+1) (w1.alloc (.cells #[.int .i64 m.x,.int .i64 m.y,.int .i64 m.d,.int .i64 m.e] 40)).drew:=by
  refine ⟨fun i hi=>(World.cell?_alloc_lt _ _ _ hz1).trans ?_,fun i=>((bel_one w1 _).frozen (p:=⟨w.heap.size+1+1,i,none⟩) hz1).trans (by go_simp)⟩
  have h10:i=0∨i=1∨i=2∨i=3∨i=4∨i=5∨i=6∨i=7∨i=8∨i=9:=by omega
  rcases h10 with rfl | rfl | rfl | rfl | rfl | rfl | rfl | rfl | rfl | rfl <;> go_simp
 have HZ:=Hid.mk' hZ
 clear hm hb1 hc1 hf1 hZ
 have hz2:w.heap.size+1<w1.heap.size:=by omega
 have hz3:w.heap.size<w1.heap.size:=by omega
 have HB2:=Hid.mk' (HB1.out.alloc HB1.out.size (.cells #[.int .i64 m.x,.int .i64 m.y,.int .i64 m.d,.int .i64 m.e] 40))
 go_wp2_with fail
 go_region_held3 (fun u=>u.cell? ⟨w.heap.size,0,none⟩=some (.int .i64 la.c)∧u.cell? ⟨w.heap.size,1,none⟩=some (.int .i64 la.m.x)∧u.cell? ⟨w.heap.size,2,none⟩=some (.int .i64 la.m.y)∧u.cell? ⟨w.heap.size,3,none⟩=some (.int .i64 la.m.d)∧u.cell? ⟨w.heap.size,4,none⟩=some (.int .i64 la.m.e)∧u.cell? ⟨w.heap.size+1,0,none⟩=some (.int .i64 lb.c)∧u.cell? ⟨w.heap.size+1,1,none⟩=some (.int .i64 lb.m.x)∧u.cell? ⟨w.heap.size+1,2,none⟩=some (.int .i64 lb.m.y)∧u.cell? ⟨w.heap.size+1,3,none⟩=some (.int .i64 lb.m.d)∧u.cell? ⟨w.heap.size+1,4,none⟩=some (.int .i64 lb.m.e)∧u.cell? ⟨w1.heap.size,0,none⟩=some (.int .i64 m.x)∧u.cell? ⟨w1.heap.size,1,none⟩=some (.int .i64 m.y)∧u.cell? ⟨w1.heap.size,2,none⟩=some (.int .i64 m.d)∧u.cell? ⟨w1.heap.size,3,none⟩=some (.int .i64 m.e)) (first | with_reducible exact hS | with_reducible exact L14.below hS b1 | with_reducible exact L14.below (L14.below hS b1) b2 | with_reducible exact L14.set10 (L14.below (L14.below hS b1) b2) (by omega) (by omega) (by omega)) (first | (go_at_call_of 153 (Value.agg #[Value.int .i64 la.c,Value.int .i64 la.m.x,Value.int .i64 la.m.y,Value.int .i64 la.m.d,Value.int .i64 la.m.e]);refine (c1 _).mono ?_;rintro r w2 ⟨rfl,b1⟩) | (go_at_call_of 153 (Value.agg #[Value.int .i64 lb.c,Value.int .i64 lb.m.x,Value.int .i64 lb.m.y,Value.int .i64 lb.m.d,Value.int .i64 lb.m.e]);refine (c2 _).mono ?_;rintro r w3 ⟨rfl,b2⟩;have hZ3:=(HZ.out.below b1).below b2;have d0:=hZ3.1 0 (by omega);have d1:=hZ3.1 1 (by omega);have d2:=hZ3.1 2 (by omega);have d3:=hZ3.1 3 (by omega);have d4:=hZ3.1 4 (by omega);have d5:=hZ3.1 5 (by omega);have d6:=hZ3.1 6 (by omega);have d7:=hZ3.1 7 (by omega);have d8:=hZ3.1 8 (by omega);have d9:=hZ3.1 9 (by omega);have dz:=hZ3.2;clear hZ3))
 have HB4:=Hid.mk' (bel_next (bel_next HB2.out.drew b1) b2)
 go_wp2
 refine bodyPost_ret (v:=.agg #[.int .i64 U.c,.int .i64 U.m.x,.int .i64 U.m.y,.int .i64 U.m.d,.int .i64 U.m.e,.int .i64 V.c,.int .i64 V.m.x,.int .i64 V.m.y,.int .i64 V.m.d,.int .i64 V.m.e]) (by simp [results,Tryz.results122,go_sem, *]) rfl ⟨rfl,?_⟩
 exact bel_s10 HB4.out (by omega) _ _ _ _ _ _ _ _ _ _
end Go.Proofs.YtdidlcjhodejjaaGreat
namespace Go.Proofs.YtdidlcjhodejjaaGreat
open Go.RowKit Go.Deep Go.Joins
set_option linter.unusedVariables false
abbrev L6 (A B C:Nat) (x y:Int) (m:M) (u:World):Prop:=u.cell? ⟨A,0,none⟩=some (.int .i64 x)∧u.cell? ⟨B,0,none⟩=some (.int .i64 y)∧u.cell? ⟨C,0,none⟩=some (.int .i64 m.x)∧u.cell? ⟨C,1,none⟩=some (.int .i64 m.y)∧u.cell? ⟨C,2,none⟩=some (.int .i64 m.d)∧u.cell? ⟨C,3,none⟩=some (.int .i64 m.e)
theorem L6.set5d {A B C D:Nat} {x y:Int} {m:M} {u:World} {v0 v1 v2 v3 v4:Value} (h:L6 A B C x y m u) (h1:A≠D) (h2:B≠D) (h3:C≠D):L6 A B C x y m (((((u.setCell ⟨D,0,none⟩ v0).setCell ⟨D,1,none⟩ v1).setCell ⟨D,2,none⟩ v2).setCell ⟨D,3,none⟩ v3).setCell ⟨D,4,none⟩ v4).drew:=
 have key:∀ v:World,L6 A B C x y m v→L6 A B C x y m v.drew:=fun v h=>h
 key _ ⟨(far5 h1).trans h.1,(far5 h2).trans h.2.1,(far5 h3).trans h.2.2.1,(far5 h3).trans h.2.2.2.1,(far5 h3).trans h.2.2.2.2.1,(far5 h3).trans h.2.2.2.2.2⟩
abbrev Q5 (B:Nat) (q:M) (u:World):Prop:=u.cell? ⟨B,0,none⟩=some (.int .i64 1)∧u.cell? ⟨B,1,none⟩=some (.int .i64 q.x)∧u.cell? ⟨B,2,none⟩=some (.int .i64 q.y)∧u.cell? ⟨B,3,none⟩=some (.int .i64 q.d)∧u.cell? ⟨B,4,none⟩=some (.int .i64 q.e)
theorem Q5.below {B:Nat} {q:M} {u u':World} (h:Q5 B q u) (hb:Below u.heap.size u u'):Q5 B q u':=
 have l:=World.block_lt_of_cell? u ⟨B,0,none⟩ h.1
 ⟨(hb.cell (p:=⟨B,0,none⟩) l).trans h.1,(hb.cell (p:=⟨B,1,none⟩) l).trans h.2.1,(hb.cell (p:=⟨B,2,none⟩) l).trans h.2.2.1,(hb.cell (p:=⟨B,3,none⟩) l).trans h.2.2.2.1,(hb.cell (p:=⟨B,4,none⟩) l).trans h.2.2.2.2⟩
theorem Q5.far {w:World} {B b:Nat} {q:M} {v0 v1 v2 v3 v4:Value} (m:Q5 b q w) (h:b≠B):Q5 b q (((((w.setCell ⟨B,0,none⟩ v0).setCell ⟨B,1,none⟩ v1).setCell ⟨B,2,none⟩ v2).setCell ⟨B,3,none⟩ v3).setCell ⟨B,4,none⟩ v4):=
 ⟨(far5 h).trans m.1,(far5 h).trans m.2.1,(far5 h).trans m.2.2.1,(far5 h).trans m.2.2.2.1,(far5 h).trans m.2.2.2.2⟩
def overT (t l:T):T:=⟨t.c * fInv l.c % 101,(M.over t.m l.m).1⟩
set_option maxRecDepth 100000 in
set_option maxHeartbeats 4000000 in
theorem l7OverS (w:World) (o:Int) (t:T) (b:Option Addr) (m cb:Nat) (g:Nat→T) (hb:Rd w b m cb g) (hm:0<m) (hg:∀ i,i<m→(g i).m.ok=true) (t1:0≤t.c) (t2:t.c≤100) :
  Calls Tryz.prog 86 #[.int .i64 o,.agg #[.int .i64 t.c,.int .i64 t.m.x,.int .i64 t.m.y,.int .i64 t.m.d,.int .i64 t.m.e],.slice b m cb] w fun r w'=>r=.returned (.agg #[.int .i64 (overT t (g (leadAt o g m))).c,.int .i64 (overT t (g (leadAt o g m))).m.x,.int .i64 (overT t (g (leadAt o g m))).m.y,.int .i64 (overT t (g (leadAt o g m))).m.d,.int .i64 (overT t (g (leadAt o g m))).m.e])∧Below w.heap.size w w':=by
 have hmb:(m:Int)≤140737488351232:=by have:=hb.2.1;omega
 have HG:=Hid.mk' hb
 have HM:=Hid.mk' hg
 have HB0:=Hid.mk' (bel_two w (.cells #[.int .i64 t.c,.int .i64 t.m.x,.int .i64 t.m.y,.int .i64 t.m.d,.int .i64 t.m.e] 42) (.cells #[.int .i64 0,.int .i64 0,.int .i64 0,.int .i64 0,.int .i64 0] 42))
 have c1:=fun (W:World) (h:Rd W b m cb g)=>l3LeadS W o b m cb g h hm HM.out
 clear hb hg
 generalize g (leadAt o g m)=l at *
 obtain ⟨q,bv,hq⟩:∃ q bv,M.over ⟨t.m.x,t.m.y,t.m.d,t.m.e⟩ ⟨l.m.x,l.m.y,l.m.d,l.m.e⟩=(q,bv):=⟨_,_,rfl⟩
 have e1:overT t l=⟨t.c * fInv l.c % 101,q⟩:=by unfold overT;rw [show M.over t.m l.m=(q,bv) from hq]
 rw [e1]
 clear e1
 obtain ⟨f1,f2⟩:=fInv_bd l.c
 obtain ⟨y,hy⟩:∃ y,fInv l.c=y:=⟨_,rfl⟩
 have c3:=fun W=>invS l.c W
 rw [hy] at f1 f2 c3 ⊢
 clear hy
 have p1:0≤t.c * y:=Int.mul_nonneg t1 f1
 have p2:t.c * y≤10000:=by
  have h1:t.c * y≤100 * y:=Int.mul_le_mul_of_nonneg_right t2 f1
  omega
 have p3:IntKind.i64.wrap (t.c * y)=t.c * y:=by rw [IntKind.wrap_i64];omega
 have p4:(t.c * y).tmod 101=t.c * y % 101:=Int.tmod_eq_emod_of_nonneg p1
 go_enter Tryz.func86,Tryz.ntmps86
 go_wp2_with fail
 refine (c1 _ (HG.out.below HB0.out)).mono ?_
 rintro r w1 ⟨rfl,hb1⟩
 have HB1:=Hid.mk' (bel_next HB0.out hb1)
 have oA:=((C5.box w 42 t).below (bel_one (w.alloc (.cells #[.int .i64 t.c,.int .i64 t.m.x,.int .i64 t.m.y,.int .i64 t.m.d,.int .i64 t.m.e] 42)) (.cells #[.int .i64 0,.int .i64 0,.int .i64 0,.int .i64 0,.int .i64 0] 42))).below hb1
 have oB:=(Own5.box (w.alloc (.cells #[.int .i64 t.c,.int .i64 t.m.x,.int .i64 t.m.y,.int .i64 t.m.d,.int .i64 t.m.e] 42)) 42 zeroT).below hb1
 rw [World.size_alloc] at oB
 have hz1:w.heap.size+1<w1.heap.size:=by have:=hb1.size;simp at this;omega
 have OA:=Hid.mk' oA
 have OB:=Hid.mk' oB
 have HB2:=Hid.mk' (HB1.out.alloc HB1.out.size (.cells #[.int .i64 l.c,.int .i64 l.m.x,.int .i64 l.m.y,.int .i64 l.m.d,.int .i64 l.m.e] 42))
 obtain ⟨r0,r1,r2,r3,r4⟩:=oA
 clear hb1 c1 oB
 have hz0:w.heap.size<w1.heap.size:=by omega
 go_wp2_with fail
 clear r0 r1 r2 r3 r4
 refine (monOverS_of hq _).mono ?_
 rintro r w2 ⟨rfl,hb2⟩
 have HB3:=Hid.mk' (bel_next HB2.out hb2)
 have oA2:=(OA.out.below (bel_one w1 (.cells #[.int .i64 l.c,.int .i64 l.m.x,.int .i64 l.m.y,.int .i64 l.m.d,.int .i64 l.m.e] 42))).below hb2
 obtain ⟨⟨e0,e1,e2,e3,e4⟩,ez⟩:=(OB.out.below (bel_one w1 (.cells #[.int .i64 l.c,.int .i64 l.m.x,.int .i64 l.m.y,.int .i64 l.m.d,.int .i64 l.m.e] 42))).below hb2
 have oL:=(C5.box w1 42 l).below hb2
 have hz2:w1.heap.size<w2.heap.size:=by have:=hb2.size;simp at this;omega
 have hz3:w.heap.size+1<w2.heap.size:=by omega
 have hz4:w.heap.size<w2.heap.size:=by omega
 have k0:w2.cell? ⟨w.heap.size,0,none⟩=some (.int .i64 t.c):=oA2.1
 have k1:w2.cell? ⟨w1.heap.size,0,none⟩=some (.int .i64 l.c):=oL.1
 have HB4:=Hid.mk' (HB3.out.alloc HB3.out.size (.cells #[.int .i64 q.x,.int .i64 q.y,.int .i64 q.d,.int .i64 q.e] 40))
 have hS:L6 w.heap.size w1.heap.size w2.heap.size t.c l.c q (w2.alloc (.cells #[.int .i64 q.x,.int .i64 q.y,.int .i64 q.d,.int .i64 q.e] 40)):=by
  have h4:=M4.box w2 40 q.x q.y q.d q.e
  exact ⟨(World.cell?_alloc_lt _ _ _ hz4).trans k0,(World.cell?_alloc_lt _ _ _ hz2).trans k1,h4.1,h4.2.1,h4.2.2.1,h4.2.2.2⟩
 have s0:=(World.cell?_alloc_lt w2 (.cells #[.int .i64 q.x,.int .i64 q.y,.int .i64 q.d,.int .i64 q.e] 40) ⟨w.heap.size+1,0,none⟩ hz3).trans e0
 have s1:=(World.cell?_alloc_lt w2 (.cells #[.int .i64 q.x,.int .i64 q.y,.int .i64 q.d,.int .i64 q.e] 40) ⟨w.heap.size+1,1,none⟩ hz3).trans e1
 have s2:=(World.cell?_alloc_lt w2 (.cells #[.int .i64 q.x,.int .i64 q.y,.int .i64 q.d,.int .i64 q.e] 40) ⟨w.heap.size+1,2,none⟩ hz3).trans e2
 have s3:=(World.cell?_alloc_lt w2 (.cells #[.int .i64 q.x,.int .i64 q.y,.int .i64 q.d,.int .i64 q.e] 40) ⟨w.heap.size+1,3,none⟩ hz3).trans e3
 have s4:=(World.cell?_alloc_lt w2 (.cells #[.int .i64 q.x,.int .i64 q.y,.int .i64 q.d,.int .i64 q.e] 40) ⟨w.heap.size+1,4,none⟩ hz3).trans e4
 have sz:=fun i=>((bel_one w2 (.cells #[.int .i64 q.x,.int .i64 q.y,.int .i64 q.d,.int .i64 q.e] 40)).frozen (p:=⟨w.heap.size+1,i,none⟩) hz3).trans (ez i)
 clear hb2 oA2 oL OA OB hq
 go_wp2_with fail
 clear e0 e1 e2 e3 e4 ez
 generalize (w2.alloc (.cells #[.int .i64 q.x,.int .i64 q.y,.int .i64 q.d,.int .i64 q.e] 40))=W at *
 have hSd:L6 w.heap.size w1.heap.size w2.heap.size t.c l.c q W.drew:=hS
 have hn1:w.heap.size≠w.heap.size+1:=by omega
 have hn2:w1.heap.size≠w.heap.size+1:=by omega
 have hn3:w2.heap.size≠w.heap.size+1:=by omega
 go_region_held3 (fun u=>u.cell? ⟨w.heap.size,0,none⟩=some (.int .i64 t.c)∧u.cell? ⟨w1.heap.size,0,none⟩=some (.int .i64 l.c)∧u.cell? ⟨w2.heap.size,0,none⟩=some (.int .i64 q.x)∧u.cell? ⟨w2.heap.size,1,none⟩=some (.int .i64 q.y)∧u.cell? ⟨w2.heap.size,2,none⟩=some (.int .i64 q.d)∧u.cell? ⟨w2.heap.size,3,none⟩=some (.int .i64 q.e)) (first | with_reducible exact hSd | with_reducible exact L6.set5d hS hn1 hn2 hn3) (first | (go_at_call 89;refine (c3 _).mono ?_;rintro r w7 ⟨rfl,hw7⟩;obtain rfl:=hw7.symm;clear hw7))
 go_wp2
 refine bodyPost_ret (v:=.agg #[.int .i64 (t.c * y % 101),.int .i64 q.x,.int .i64 q.y,.int .i64 q.d,.int .i64 q.e]) (by simp [results,Tryz.results86,go_sem, *]) rfl ⟨rfl,?_⟩
 exact (bel_s5 HB4.out (by omega) _ _ _ _ _).drew
theorem overT_is {l:T} {b:M}:overT ⟨1,b⟩ l=sprT l b:=by
 unfold overT sprT
 have:=fInv_bd l.c
 congr 1
 show 1 * fInv l.c % 101=fInv l.c
 omega
set_option maxRecDepth 100000 in
set_option maxHeartbeats 1000000 in
theorem sprTermsS_o (w:World) (o:Int) (a:Option Addr) (n ca:Nat) (f:Nat→T) (b:Option Addr) (m cb:Nat) (g:Nat→T) (ha:Rd w a n ca f) (hb:Rd w b m cb g) (ho':o<1∨(1≤o∧3<o)) :
  Calls Tryz.prog 136 #[.int .i64 o,.slice a n ca,.slice b m cb] w fun r w'=>r=.returned (.tuple #[.agg #[.int .i64 0,.int .i64 0,.int .i64 0,.int .i64 0,.int .i64 0],.agg #[.int .i64 0,.int .i64 0,.int .i64 0,.int .i64 0,.int .i64 0],.bool false])∧Below w.heap.size w w':=by
 have HA:=Hid.mk' ha
 have HB:=Hid.mk' hb
 have hla:(n:Int)≤140737488351232:=by have:=ha.2.1;omega
 have hlb:(m:Int)≤140737488351232:=by have:=hb.2.1;omega
 have HB0:=Hid.mk' (bel_two w (.cells #[.int .i64 0,.int .i64 0,.int .i64 0,.int .i64 0,.int .i64 0] 42) (.cells #[.int .i64 0,.int .i64 0,.int .i64 0,.int .i64 0,.int .i64 0] 42))
 have oA0:=(Own5.box w 42 zeroT).below (bel_one (w.alloc (.cells #[.int .i64 0,.int .i64 0,.int .i64 0,.int .i64 0,.int .i64 0] 42)) (.cells #[.int .i64 0,.int .i64 0,.int .i64 0,.int .i64 0,.int .i64 0] 42))
 have oB0:=Own5.box (w.alloc (.cells #[.int .i64 0,.int .i64 0,.int .i64 0,.int .i64 0,.int .i64 0] 42)) 42 zeroT
 rw [World.size_alloc] at oB0
 have OA:=Hid.mk' oA0
 have OB:=Hid.mk' oB0
 clear ha hb oA0 oB0
 go_enter Tryz.func136,Tryz.ntmps136
 go_wp2_with (go_at_call 39;refine (inS_out _ _ _ _ ho').mono ?_;rintro r w' ⟨rfl,hw'⟩;obtain rfl:=hw'.symm;clear hw')
 refine bodyPost_ret (v:=.tuple #[.agg #[.int .i64 0,.int .i64 0,.int .i64 0,.int .i64 0,.int .i64 0],.agg #[.int .i64 0,.int .i64 0,.int .i64 0,.int .i64 0,.int .i64 0],.bool false]) (by simp [results,Tryz.results136,go_sem, *]) rfl ⟨rfl,HB0.out⟩
set_option maxRecDepth 100000 in
set_option maxHeartbeats 1000000 in
theorem sprTermsS_a (w:World) (o:Int) (a:Option Addr) (n ca:Nat) (f:Nat→T) (b:Option Addr) (m cb:Nat) (g:Nat→T) (ha:Rd w a n ca f) (hb:Rd w b m cb g) (o1:1≤o) (o2:o≤3) (hp:polOk n f=false) :
  Calls Tryz.prog 136 #[.int .i64 o,.slice a n ca,.slice b m cb] w fun r w'=>r=.returned (.tuple #[.agg #[.int .i64 0,.int .i64 0,.int .i64 0,.int .i64 0,.int .i64 0],.agg #[.int .i64 0,.int .i64 0,.int .i64 0,.int .i64 0,.int .i64 0],.bool false])∧Below w.heap.size w w':=by
 have HA:=Hid.mk' ha
 have HB:=Hid.mk' hb
 have hla:(n:Int)≤140737488351232:=by have:=ha.2.1;omega
 have hlb:(m:Int)≤140737488351232:=by have:=hb.2.1;omega
 have HB0:=Hid.mk' (bel_two w (.cells #[.int .i64 0,.int .i64 0,.int .i64 0,.int .i64 0,.int .i64 0] 42) (.cells #[.int .i64 0,.int .i64 0,.int .i64 0,.int .i64 0,.int .i64 0] 42))
 have oA0:=(Own5.box w 42 zeroT).below (bel_one (w.alloc (.cells #[.int .i64 0,.int .i64 0,.int .i64 0,.int .i64 0,.int .i64 0] 42)) (.cells #[.int .i64 0,.int .i64 0,.int .i64 0,.int .i64 0,.int .i64 0] 42))
 have oB0:=Own5.box (w.alloc (.cells #[.int .i64 0,.int .i64 0,.int .i64 0,.int .i64 0,.int .i64 0] 42)) 42 zeroT
 rw [World.size_alloc] at oB0
 have OA:=Hid.mk' oA0
 have OB:=Hid.mk' oB0
 clear ha hb oA0 oB0
 go_enter Tryz.func136,Tryz.ntmps136
 go_wp2_with (go_at_call 39;refine (inS_in _ _ _ _ o1 o2).mono ?_;rintro r w' ⟨rfl,hw'⟩;obtain rfl:=hw'.symm;clear hw')
 refine (polOkS _ _ _ _ f (HA.out.below HB0.out)).mono ?_
 rw [hp]
 rintro r w1 ⟨rfl,hb1⟩
 have HB1:=Hid.mk' (bel_next HB0.out hb1)
 have OA1:=Hid.mk' (OA.out.below hb1)
 have OB1:=Hid.mk' (OB.out.below hb1)
 clear hb1 OA OB
 obtain ⟨⟨e0,e1,e2,e3,e4⟩,ez⟩:=OA1.out
 obtain ⟨⟨g0,g1,g2,g3,g4⟩,gz⟩:=OB1.out
 have hl2:w.heap.size+1<w1.heap.size:=World.block_lt_of_cell? w1 _ g0
 have hl1:w.heap.size<w1.heap.size:=by omega
 go_wp2
 refine bodyPost_ret (v:=.tuple #[.agg #[.int .i64 0,.int .i64 0,.int .i64 0,.int .i64 0,.int .i64 0],.agg #[.int .i64 0,.int .i64 0,.int .i64 0,.int .i64 0,.int .i64 0],.bool false]) (by simp [results,Tryz.results136,go_sem, *]) rfl ⟨rfl,?_⟩
 with_reducible exact bel_s5 (bel_s5 HB1.out (by omega) _ _ _ _ _) (by omega) _ _ _ _ _
set_option maxRecDepth 100000 in
set_option maxHeartbeats 1000000 in
theorem sprTermsS_b (w:World) (o:Int) (a:Option Addr) (n ca:Nat) (f:Nat→T) (b:Option Addr) (m cb:Nat) (g:Nat→T) (ha:Rd w a n ca f) (hb:Rd w b m cb g) (o1:1≤o) (o2:o≤3) (hp:polOk n f=true) (hq:polOk m g=false) :
  Calls Tryz.prog 136 #[.int .i64 o,.slice a n ca,.slice b m cb] w fun r w'=>r=.returned (.tuple #[.agg #[.int .i64 0,.int .i64 0,.int .i64 0,.int .i64 0,.int .i64 0],.agg #[.int .i64 0,.int .i64 0,.int .i64 0,.int .i64 0,.int .i64 0],.bool false])∧Below w.heap.size w w':=by
 have HA:=Hid.mk' ha
 have HB:=Hid.mk' hb
 have hla:(n:Int)≤140737488351232:=by have:=ha.2.1;omega
 have hlb:(m:Int)≤140737488351232:=by have:=hb.2.1;omega
 have HB0:=Hid.mk' (bel_two w (.cells #[.int .i64 0,.int .i64 0,.int .i64 0,.int .i64 0,.int .i64 0] 42) (.cells #[.int .i64 0,.int .i64 0,.int .i64 0,.int .i64 0,.int .i64 0] 42))
 have oA0:=(Own5.box w 42 zeroT).below (bel_one (w.alloc (.cells #[.int .i64 0,.int .i64 0,.int .i64 0,.int .i64 0,.int .i64 0] 42)) (.cells #[.int .i64 0,.int .i64 0,.int .i64 0,.int .i64 0,.int .i64 0] 42))
 have oB0:=Own5.box (w.alloc (.cells #[.int .i64 0,.int .i64 0,.int .i64 0,.int .i64 0,.int .i64 0] 42)) 42 zeroT
 rw [World.size_alloc] at oB0
 have OA:=Hid.mk' oA0
 have OB:=Hid.mk' oB0
 clear ha hb oA0 oB0
 go_enter Tryz.func136,Tryz.ntmps136
 go_wp2_with (go_at_call 39;refine (inS_in _ _ _ _ o1 o2).mono ?_;rintro r w' ⟨rfl,hw'⟩;obtain rfl:=hw'.symm;clear hw')
 refine (polOkS _ _ _ _ f (HA.out.below HB0.out)).mono ?_
 rw [hp]
 rintro r w1 ⟨rfl,hb1⟩
 have HB1:=Hid.mk' (bel_next HB0.out hb1)
 have OA1:=Hid.mk' (OA.out.below hb1)
 have OB1:=Hid.mk' (OB.out.below hb1)
 clear hb1 OA OB
 go_wp2_with fail
 refine (polOkS _ _ _ _ g (HB.out.below HB1.out)).mono ?_
 rw [hq]
 rintro r w2 ⟨rfl,hb1⟩
 have HB2:=Hid.mk' (bel_next HB1.out hb1)
 have OA11:=Hid.mk' (OA1.out.below hb1)
 have OB11:=Hid.mk' (OB1.out.below hb1)
 clear hb1 OA1 OB1
 obtain ⟨⟨e0,e1,e2,e3,e4⟩,ez⟩:=OA11.out
 obtain ⟨⟨g0,g1,g2,g3,g4⟩,gz⟩:=OB11.out
 have hl2:w.heap.size+1<w2.heap.size:=World.block_lt_of_cell? w2 _ g0
 have hl1:w.heap.size<w2.heap.size:=by omega
 go_wp2
 refine bodyPost_ret (v:=.tuple #[.agg #[.int .i64 0,.int .i64 0,.int .i64 0,.int .i64 0,.int .i64 0],.agg #[.int .i64 0,.int .i64 0,.int .i64 0,.int .i64 0,.int .i64 0],.bool false]) (by simp [results,Tryz.results136,go_sem, *]) rfl ⟨rfl,?_⟩
 with_reducible exact bel_s5 (bel_s5 HB2.out (by omega) _ _ _ _ _) (by omega) _ _ _ _ _
set_option maxRecDepth 100000 in
set_option maxHeartbeats 1000000 in
theorem sprTermsS_n (w:World) (o:Int) (a:Option Addr) (n ca:Nat) (f:Nat→T) (b:Option Addr) (m cb:Nat) (g:Nat→T) (ha:Rd w a n ca f) (hb:Rd w b m cb g) (o1:1≤o) (o2:o≤3) (hp:polOk n f=true) (hq:polOk m g=true) (h0:n=0) :
  Calls Tryz.prog 136 #[.int .i64 o,.slice a n ca,.slice b m cb] w fun r w'=>r=.returned (.tuple #[.agg #[.int .i64 0,.int .i64 0,.int .i64 0,.int .i64 0,.int .i64 0],.agg #[.int .i64 0,.int .i64 0,.int .i64 0,.int .i64 0,.int .i64 0],.bool false])∧Below w.heap.size w w':=by
 have HA:=Hid.mk' ha
 have HB:=Hid.mk' hb
 have hla:(n:Int)≤140737488351232:=by have:=ha.2.1;omega
 have hlb:(m:Int)≤140737488351232:=by have:=hb.2.1;omega
 have HB0:=Hid.mk' (bel_two w (.cells #[.int .i64 0,.int .i64 0,.int .i64 0,.int .i64 0,.int .i64 0] 42) (.cells #[.int .i64 0,.int .i64 0,.int .i64 0,.int .i64 0,.int .i64 0] 42))
 have oA0:=(Own5.box w 42 zeroT).below (bel_one (w.alloc (.cells #[.int .i64 0,.int .i64 0,.int .i64 0,.int .i64 0,.int .i64 0] 42)) (.cells #[.int .i64 0,.int .i64 0,.int .i64 0,.int .i64 0,.int .i64 0] 42))
 have oB0:=Own5.box (w.alloc (.cells #[.int .i64 0,.int .i64 0,.int .i64 0,.int .i64 0,.int .i64 0] 42)) 42 zeroT
 rw [World.size_alloc] at oB0
 have OA:=Hid.mk' oA0
 have OB:=Hid.mk' oB0
 clear ha hb oA0 oB0
 have hne:((n:Int) == 0)=true:=by simp;omega
 clear h0
 go_enter Tryz.func136,Tryz.ntmps136
 go_wp2_with (go_at_call 39;refine (inS_in _ _ _ _ o1 o2).mono ?_;rintro r w' ⟨rfl,hw'⟩;obtain rfl:=hw'.symm;clear hw')
 refine (polOkS _ _ _ _ f (HA.out.below HB0.out)).mono ?_
 rw [hp]
 rintro r w1 ⟨rfl,hb1⟩
 have HB1:=Hid.mk' (bel_next HB0.out hb1)
 have OA1:=Hid.mk' (OA.out.below hb1)
 have OB1:=Hid.mk' (OB.out.below hb1)
 clear hb1 OA OB
 go_wp2_with fail
 refine (polOkS _ _ _ _ g (HB.out.below HB1.out)).mono ?_
 rw [hq]
 rintro r w2 ⟨rfl,hb1⟩
 have HB2:=Hid.mk' (bel_next HB1.out hb1)
 have OA11:=Hid.mk' (OA1.out.below hb1)
 have OB11:=Hid.mk' (OB1.out.below hb1)
 clear hb1 OA1 OB1
 obtain ⟨⟨e0,e1,e2,e3,e4⟩,ez⟩:=OA11.out
 obtain ⟨⟨g0,g1,g2,g3,g4⟩,gz⟩:=OB11.out
 have hl2:w.heap.size+1<w2.heap.size:=World.block_lt_of_cell? w2 _ g0
 have hl1:w.heap.size<w2.heap.size:=by omega
 go_wp2
 refine bodyPost_ret (v:=.tuple #[.agg #[.int .i64 0,.int .i64 0,.int .i64 0,.int .i64 0,.int .i64 0],.agg #[.int .i64 0,.int .i64 0,.int .i64 0,.int .i64 0,.int .i64 0],.bool false]) (by simp [results,Tryz.results136,go_sem, *]) rfl ⟨rfl,?_⟩
 with_reducible exact bel_s5 (bel_s5 HB2.out (by omega) _ _ _ _ _) (by omega) _ _ _ _ _
set_option maxRecDepth 100000 in
set_option maxHeartbeats 1000000 in
theorem sprTermsS_m (w:World) (o:Int) (a:Option Addr) (n ca:Nat) (f:Nat→T) (b:Option Addr) (m cb:Nat) (g:Nat→T) (ha:Rd w a n ca f) (hb:Rd w b m cb g) (o1:1≤o) (o2:o≤3) (hp:polOk n f=true) (hq:polOk m g=true) (h0:n≠0) (h1:m=0) :
  Calls Tryz.prog 136 #[.int .i64 o,.slice a n ca,.slice b m cb] w fun r w'=>r=.returned (.tuple #[.agg #[.int .i64 0,.int .i64 0,.int .i64 0,.int .i64 0,.int .i64 0],.agg #[.int .i64 0,.int .i64 0,.int .i64 0,.int .i64 0,.int .i64 0],.bool false])∧Below w.heap.size w w':=by
 have HA:=Hid.mk' ha
 have HB:=Hid.mk' hb
 have hla:(n:Int)≤140737488351232:=by have:=ha.2.1;omega
 have hlb:(m:Int)≤140737488351232:=by have:=hb.2.1;omega
 have HB0:=Hid.mk' (bel_two w (.cells #[.int .i64 0,.int .i64 0,.int .i64 0,.int .i64 0,.int .i64 0] 42) (.cells #[.int .i64 0,.int .i64 0,.int .i64 0,.int .i64 0,.int .i64 0] 42))
 have oA0:=(Own5.box w 42 zeroT).below (bel_one (w.alloc (.cells #[.int .i64 0,.int .i64 0,.int .i64 0,.int .i64 0,.int .i64 0] 42)) (.cells #[.int .i64 0,.int .i64 0,.int .i64 0,.int .i64 0,.int .i64 0] 42))
 have oB0:=Own5.box (w.alloc (.cells #[.int .i64 0,.int .i64 0,.int .i64 0,.int .i64 0,.int .i64 0] 42)) 42 zeroT
 rw [World.size_alloc] at oB0
 have OA:=Hid.mk' oA0
 have OB:=Hid.mk' oB0
 clear ha hb oA0 oB0
 have hne:((n:Int) == 0)=false:=by simp;omega
 have hme:((m:Int) == 0)=true:=by simp;omega
 clear h0 h1
 go_enter Tryz.func136,Tryz.ntmps136
 go_wp2_with (go_at_call 39;refine (inS_in _ _ _ _ o1 o2).mono ?_;rintro r w' ⟨rfl,hw'⟩;obtain rfl:=hw'.symm;clear hw')
 refine (polOkS _ _ _ _ f (HA.out.below HB0.out)).mono ?_
 rw [hp]
 rintro r w1 ⟨rfl,hb1⟩
 have HB1:=Hid.mk' (bel_next HB0.out hb1)
 have OA1:=Hid.mk' (OA.out.below hb1)
 have OB1:=Hid.mk' (OB.out.below hb1)
 clear hb1 OA OB
 go_wp2_with fail
 refine (polOkS _ _ _ _ g (HB.out.below HB1.out)).mono ?_
 rw [hq]
 rintro r w2 ⟨rfl,hb1⟩
 have HB2:=Hid.mk' (bel_next HB1.out hb1)
 have OA11:=Hid.mk' (OA1.out.below hb1)
 have OB11:=Hid.mk' (OB1.out.below hb1)
 clear hb1 OA1 OB1
 obtain ⟨⟨e0,e1,e2,e3,e4⟩,ez⟩:=OA11.out
 obtain ⟨⟨g0,g1,g2,g3,g4⟩,gz⟩:=OB11.out
 have hl2:w.heap.size+1<w2.heap.size:=World.block_lt_of_cell? w2 _ g0
 have hl1:w.heap.size<w2.heap.size:=by omega
 go_wp2
 refine bodyPost_ret (v:=.tuple #[.agg #[.int .i64 0,.int .i64 0,.int .i64 0,.int .i64 0,.int .i64 0],.agg #[.int .i64 0,.int .i64 0,.int .i64 0,.int .i64 0,.int .i64 0],.bool false]) (by simp [results,Tryz.results136,go_sem, *]) rfl ⟨rfl,?_⟩
 with_reducible exact bel_s5 (bel_s5 HB2.out (by omega) _ _ _ _ _) (by omega) _ _ _ _ _
set_option maxRecDepth 100000 in
set_option maxHeartbeats 1000000 in
theorem sprTermsS_y (w:World) (o:Int) (a:Option Addr) (n ca:Nat) (f:Nat→T) (b:Option Addr) (m cb:Nat) (g:Nat→T) (ha:Rd w a n ca f) (hb:Rd w b m cb g) (o1:1≤o) (o2:o≤3) (hp:polOk n f=true) (hq:polOk m g=true) (pn:0<n) (pm:0<m) :
  Calls Tryz.prog 136 #[.int .i64 o,.slice a n ca,.slice b m cb] w fun r w'=>r=.returned (.tuple #[.agg #[.int .i64 (sprU o n f m g).c,.int .i64 (sprU o n f m g).m.x,.int .i64 (sprU o n f m g).m.y,.int .i64 (sprU o n f m g).m.d,.int .i64 (sprU o n f m g).m.e],.agg #[.int .i64 (sprV o n f m g).c,.int .i64 (sprV o n f m g).m.x,.int .i64 (sprV o n f m g).m.y,.int .i64 (sprV o n f m g).m.d,.int .i64 (sprV o n f m g).m.e],.bool (sprOk o n f m g)])∧Below w.heap.size w w':=by
 have HA:=Hid.mk' ha
 have HB:=Hid.mk' hb
 have hla:(n:Int)≤140737488351232:=by have:=ha.2.1;omega
 have hlb:(m:Int)≤140737488351232:=by have:=hb.2.1;omega
 have HB0:=Hid.mk' (bel_two w (.cells #[.int .i64 0,.int .i64 0,.int .i64 0,.int .i64 0,.int .i64 0] 42) (.cells #[.int .i64 0,.int .i64 0,.int .i64 0,.int .i64 0,.int .i64 0] 42))
 have oA0:=(Own5.box w 42 zeroT).below (bel_one (w.alloc (.cells #[.int .i64 0,.int .i64 0,.int .i64 0,.int .i64 0,.int .i64 0] 42)) (.cells #[.int .i64 0,.int .i64 0,.int .i64 0,.int .i64 0,.int .i64 0] 42))
 have oB0:=Own5.box (w.alloc (.cells #[.int .i64 0,.int .i64 0,.int .i64 0,.int .i64 0,.int .i64 0] 42)) 42 zeroT
 rw [World.size_alloc] at oB0
 have OA:=Hid.mk' oA0
 have OB:=Hid.mk' oB0
 clear ha hb oA0 oB0
 have hk1:leadOk o n f=true:=by unfold leadOk;rw [hp,decide_eq_true (show 1≤o∧o≤3 from ⟨o1,o2⟩),decide_eq_true pn];rfl
 have hk2:leadOk o m g=true:=by unfold leadOk;rw [hq,decide_eq_true (show 1≤o∧o≤3 from ⟨o1,o2⟩),decide_eq_true pm];rfl
 have hk:sprOk o n f m g=true:=by unfold sprOk;rw [hk1,hk2];rfl
 have eU:sprU o n f m g=overT ⟨1,M.both (f (leadAt o f n)).m (g (leadAt o g m)).m⟩ (f (leadAt o f n)):=by
  rw [overT_is];unfold sprU sprB;rw [if_pos hk,leadT_yes hk1,leadT_yes hk2]
 have eV:sprV o n f m g=overT ⟨1,M.both (f (leadAt o f n)).m (g (leadAt o g m)).m⟩ (g (leadAt o g m)):=by
  rw [overT_is];unfold sprV sprB;rw [if_pos hk,leadT_yes hk1,leadT_yes hk2]
 rw [eU,eV,hk]
 have hne:((n:Int) == 0)=false:=by simp;omega
 have hme:((m:Int) == 0)=false:=by simp;omega
 have HF:=Hid.mk' (polOk_m hp)
 have HG:=Hid.mk' (polOk_m hq)
 have c1:=fun (W:World) (h:Rd W a n ca f)=>l3LeadS W o a n ca f h pn HF.out
 have c2:=fun (W:World) (h:Rd W b m cb g)=>l3LeadS W o b m cb g h pm HG.out
 have c3:=fun (W:World) (q:M) (h:Rd W a n ca f)=>l7OverS W o ⟨1,q⟩ a n ca f h pn HF.out (show (0:Int)≤1 by decide) (show (1:Int)≤100 by decide)
 have c4:=fun (W:World) (q:M) (h:Rd W b m cb g)=>l7OverS W o ⟨1,q⟩ b m cb g h pm HG.out (show (0:Int)≤1 by decide) (show (1:Int)≤100 by decide)
 clear eU eV hk hk1 hk2 pn pm
 generalize f (leadAt o f n)=s at *
 generalize g (leadAt o g m)=t at *
 obtain ⟨q,hqq⟩:∃ q,M.both ⟨s.m.x,s.m.y,s.m.d,s.m.e⟩ ⟨t.m.x,t.m.y,t.m.d,t.m.e⟩=q:=⟨_,rfl⟩
 rw [show M.both s.m t.m=q from hqq]
 have d3:=fun W=>c3 W q
 have d4:=fun W=>c4 W q
 clear c3 c4
 generalize overT ⟨1,q⟩ s=U at *
 generalize overT ⟨1,q⟩ t=V at *
 dsimp only at d3 d4
 have hfs:∀ W:World,(Instr.field 42 (Value.agg #[.int .i64 s.c,.int .i64 s.m.x,.int .i64 s.m.y,.int .i64 s.m.d,.int .i64 s.m.e]) 1).run Tryz.prog W=.ok (Value.agg #[.int .i64 s.m.x,.int .i64 s.m.y,.int .i64 s.m.d,.int .i64 s.m.e]) W:=fun W=>by kernel_rfl
 have hft:∀ W:World,(Instr.field 42 (Value.agg #[.int .i64 t.c,.int .i64 t.m.x,.int .i64 t.m.y,.int .i64 t.m.d,.int .i64 t.m.e]) 1).run Tryz.prog W=.ok (Value.agg #[.int .i64 t.m.x,.int .i64 t.m.y,.int .i64 t.m.d,.int .i64 t.m.e]) W:=fun W=>by kernel_rfl
 go_enter Tryz.func136,Tryz.ntmps136
 go_wp2_with (go_at_call 39;refine (inS_in _ _ _ _ o1 o2).mono ?_;rintro r w' ⟨rfl,hw'⟩;obtain rfl:=hw'.symm;clear hw')
 refine (polOkS _ _ _ _ f (HA.out.below HB0.out)).mono ?_
 rw [hp]
 rintro r w1 ⟨rfl,hb1⟩
 have HB1:=Hid.mk' (bel_next HB0.out hb1)
 have OA1:=Hid.mk' (OA.out.below hb1)
 have OB1:=Hid.mk' (OB.out.below hb1)
 clear hb1 OA OB
 go_wp2_with fail
 refine (polOkS _ _ _ _ g (HB.out.below HB1.out)).mono ?_
 rw [hq]
 rintro r w2 ⟨rfl,hb1⟩
 have HB2:=Hid.mk' (bel_next HB1.out hb1)
 have OA11:=Hid.mk' (OA1.out.below hb1)
 have OB11:=Hid.mk' (OB1.out.below hb1)
 clear hb1 OA1 OB1
 go_wp2_with fail
 refine (c1 _ (HA.out.below HB2.out)).mono ?_
 rintro r w3 ⟨rfl,hb3⟩
 have HB3:=Hid.mk' (bel_next HB2.out hb3)
 have OA3:=Hid.mk' (OA11.out.below hb3)
 have OB3:=Hid.mk' (OB11.out.below hb3)
 clear hb3
 go_wp2_with fail
 refine (c2 _ (HB.out.below HB3.out)).mono ?_
 rintro r w4 ⟨rfl,hb4⟩
 have HB4:=Hid.mk' (bel_next HB3.out hb4)
 have OA4:=Hid.mk' (OA3.out.below hb4)
 have OB4:=Hid.mk' (OB3.out.below hb4)
 clear hb4
 go_wp2_with fail
 refine (monBothS_of hqq _).mono ?_
 rintro r w5 ⟨rfl,hb5⟩
 have HB5:=Hid.mk' (bel_next HB4.out hb5)
 have OA5:=Hid.mk' (OA4.out.below hb5)
 have OB5:=Hid.mk' (OB4.out.below hb5)
 have SZ5:Hid (w.heap.size+1<w5.heap.size):=World.block_lt_of_cell? w5 _ OB5.out.1.1
 clear hb5 hqq OA11 OB11 OA3 OB3 OA4 OB4 HB0 HB1 HB2 HB3 HB4 c1 c2 hp hq
 have tC:=C5.box w5 42 ⟨1,q⟩
 have OA6:=Hid.mk' (OA5.out.below (bel_one w5 (.cells #[.int .i64 1,.int .i64 q.x,.int .i64 q.y,.int .i64 q.d,.int .i64 q.e] 42)))
 have OB6:=Hid.mk' (OB5.out.below (bel_one w5 (.cells #[.int .i64 1,.int .i64 q.x,.int .i64 q.y,.int .i64 q.d,.int .i64 q.e] 42)))
 have HB6:=Hid.mk' (HB5.out.alloc HB5.out.size (.cells #[.int .i64 1,.int .i64 q.x,.int .i64 q.y,.int .i64 q.d,.int .i64 q.e] 42))
 go_wp2_with fail
 clear OA5 OB5 HB5
 generalize (w5.alloc (.cells #[.int .i64 1,.int .i64 q.x,.int .i64 q.y,.int .i64 q.d,.int .i64 q.e] 42))=W at *
 have hbx:w5.heap.size≠w.heap.size∧w5.heap.size≠w.heap.size+1:=by have:=SZ5.out;omega
 obtain ⟨hn1,hn2⟩:=hbx
 have HA6:=Hid.mk' (HA.out.below HB6.out.drew)
 have HBb6:=Hid.mk' (HB.out.below HB6.out.drew)
 have tCd:Q5 w5.heap.size q W.drew:=tC
 have OAd:Hid (Own5 W.drew w.heap.size zeroT):=OA6.out
 have OBd:Hid (Own5 W.drew (w.heap.size+1) zeroT):=OB6.out
 have HBd:=Hid.mk' HB6.out.drew
 clear OA6 OB6
 go_region_held3 (fun u=>u.cell? ⟨w5.heap.size,0,none⟩=some (.int .i64 1)∧u.cell? ⟨w5.heap.size,1,none⟩=some (.int .i64 q.x)∧u.cell? ⟨w5.heap.size,2,none⟩=some (.int .i64 q.y)∧u.cell? ⟨w5.heap.size,3,none⟩=some (.int .i64 q.d)∧u.cell? ⟨w5.heap.size,4,none⟩=some (.int .i64 q.e)) (first | with_reducible exact tCd | with_reducible exact Q5.below tCd b1 | with_reducible exact Q5.below (Q5.below tCd b1) b2 | with_reducible exact Q5.far (by assumption) hn1 | with_reducible exact Q5.far (by assumption) hn2) (first | (go_at_call 86;(with_reducible refine (d3 _ HA6.out).mono ?_);rintro r w6 ⟨rfl,b1⟩) | (go_at_call 86;(with_reducible refine (d4 _ (HBb6.out.below b1)).mono ?_);rintro r w7 ⟨rfl,b2⟩;obtain ⟨⟨e0,e1,e2,e3,e4⟩,ez⟩:=(OAd.out.below b1).below b2;obtain ⟨⟨g0,g1,g2,g3,g4⟩,gz⟩:=(OBd.out.below b1).below b2))
 have HB7:=Hid.mk' (bel_next (bel_next HBd.out b1) b2)
 go_wp2
 refine bodyPost_ret (v:=.tuple #[.agg #[.int .i64 U.c,.int .i64 U.m.x,.int .i64 U.m.y,.int .i64 U.m.d,.int .i64 U.m.e],.agg #[.int .i64 V.c,.int .i64 V.m.x,.int .i64 V.m.y,.int .i64 V.m.d,.int .i64 V.m.e],.bool true]) (by simp [results,Tryz.results136,go_sem, *]) rfl ⟨rfl,?_⟩
 with_reducible exact bel_s5 (bel_s5 HB7.out (by omega) _ _ _ _ _) (by omega) _ _ _ _ _
set_option maxRecDepth 100000 in
set_option maxHeartbeats 1000000 in
theorem sprTermsS (w:World) (o:Int) (a:Option Addr) (n ca:Nat) (f:Nat→T) (b:Option Addr) (m cb:Nat) (g:Nat→T) (ha:Rd w a n ca f) (hb:Rd w b m cb g) :
  Calls Tryz.prog 136 #[.int .i64 o,.slice a n ca,.slice b m cb] w fun r w'=>r=.returned (.tuple #[.agg #[.int .i64 (sprU o n f m g).c,.int .i64 (sprU o n f m g).m.x,.int .i64 (sprU o n f m g).m.y,.int .i64 (sprU o n f m g).m.d,.int .i64 (sprU o n f m g).m.e],.agg #[.int .i64 (sprV o n f m g).c,.int .i64 (sprV o n f m g).m.x,.int .i64 (sprV o n f m g).m.y,.int .i64 (sprV o n f m g).m.d,.int .i64 (sprV o n f m g).m.e],.bool (sprOk o n f m g)])∧Below w.heap.size w w':=by
 have key:sprOk o n f m g=false→(Calls Tryz.prog 136 #[.int .i64 o,.slice a n ca,.slice b m cb] w fun r w'=>r=.returned (.tuple #[.agg #[.int .i64 0,.int .i64 0,.int .i64 0,.int .i64 0,.int .i64 0],.agg #[.int .i64 0,.int .i64 0,.int .i64 0,.int .i64 0,.int .i64 0],.bool false])∧Below w.heap.size w w')→Calls Tryz.prog 136 #[.int .i64 o,.slice a n ca,.slice b m cb] w fun r w'=>r=.returned (.tuple #[.agg #[.int .i64 (sprU o n f m g).c,.int .i64 (sprU o n f m g).m.x,.int .i64 (sprU o n f m g).m.y,.int .i64 (sprU o n f m g).m.d,.int .i64 (sprU o n f m g).m.e],.agg #[.int .i64 (sprV o n f m g).c,.int .i64 (sprV o n f m g).m.x,.int .i64 (sprV o n f m g).m.y,.int .i64 (sprV o n f m g).m.d,.int .i64 (sprV o n f m g).m.e],.bool (sprOk o n f m g)])∧Below w.heap.size w w':=fun hk h=>by
  have eU:sprU o n f m g=zeroT:=if_neg (by rw [hk];decide)
  have eV:sprV o n f m g=zeroT:=if_neg (by rw [hk];decide)
  rw [eU,eV,hk]
  exact h
 by_cases ho:1≤o∧o≤3
 ·obtain ⟨o1,o2⟩:=ho
  cases hp:polOk n f
  ·exact key (by unfold sprOk leadOk;simp [hp]) (sprTermsS_a w o a n ca f b m cb g ha hb o1 o2 hp)
  ·cases hq:polOk m g
   ·exact key (by unfold sprOk leadOk;simp [hq]) (sprTermsS_b w o a n ca f b m cb g ha hb o1 o2 hp hq)
   ·by_cases hn0:n=0
    ·exact key (by unfold sprOk leadOk;simp [hn0]) (sprTermsS_n w o a n ca f b m cb g ha hb o1 o2 hp hq hn0)
    ·by_cases hm0:m=0
     ·exact key (by unfold sprOk leadOk;simp [hm0]) (sprTermsS_m w o a n ca f b m cb g ha hb o1 o2 hp hq hn0 hm0)
     ·exact sprTermsS_y w o a n ca f b m cb g ha hb o1 o2 hp hq (by omega) (by omega)
 ·exact key (by unfold sprOk leadOk;simp [ho]) (sprTermsS_o w o a n ca f b m cb g ha hb (by omega))
end Go.Proofs.YtdidlcjhodejjaaGreat
namespace Go.Proofs.YtdidlcjhodejjaaGreat
open Go.RowKit Go.Deep Go.Joins
set_option linter.unusedVariables false
theorem leadFrom_lt {o:Int} {f:Nat→T}:∀ u i k n,k<n→i+u≤n→leadFrom o f u i k<n
 | 0,_,_,_,h,_=>h
 | u+1,i,k,n,h,h2=>by
  unfold leadFrom
  split
  ·exact leadFrom_lt u (i+1) i n (by omega) (by omega)
  ·exact leadFrom_lt u (i+1) k n h (by omega)
theorem leadAt_lt {o:Int} {f:Nat→T} {n:Nat} (h:0<n):leadAt o f n<n:=leadFrom_lt (n - 1) 1 0 n h (by omega)
theorem leadOk_parts {o:Int} {n:Nat} {f:Nat→T} (h:leadOk o n f=true):(1≤o∧o≤3)∧polOk n f=true∧0<n:=by
 unfold leadOk at h
 simp only [Bool.and_eq_true,decide_eq_true_eq] at h
 exact ⟨h.1.1,h.1.2,h.2⟩
theorem lead_good {o:Int} {n:Nat} {f:Nat→T} (h:leadOk o n f=true):(leadT o n f).m.ok=true∧1≤(leadT o n f).c∧(leadT o n f).c≤100:=by
 obtain ⟨ho,hp,hn⟩:=leadOk_parts h
 rw [leadT_yes h]
 exact (fl_of_ok hp).2 _ (leadAt_lt hn)
theorem fInv_pos {c:Int} (h1:1≤c) (h2:c≤100):1≤fInv c:=by
 have hb:=fInv_bd c
 rcases Int.lt_or_le 0 (fInv c) with h | h
 ·omega
 ·have h0:fInv c=0:=by omega
  have:=fMul_inv (b:=c) ⟨by omega,h2⟩ (by omega)
  rw [h0,fMul_in (by omega) (by omega) (by omega) h2] at this
  omega
theorem sprT_good {l:T} {b:M} (h:l.m.ok=true∧1≤l.c∧l.c≤100) (hd:l.m.dvd b=true):(sprT l b).m.ok=true∧1≤(sprT l b).c∧(sprT l b).c≤100:=by
 refine ⟨?_,fInv_pos h.2.1 h.2.2,(fInv_bd _).2⟩
 show ((M.over b l.m).1).ok=true
 rw [M.over,if_pos hd]
 obtain ⟨h1,h2,h3⟩:=M.dvd_iff hd
 have k1:=M.ok_iff.1 h1
 have k2:=M.ok_iff.1 h2
 refine M.ok_iff.2 ?_
 simp only [M.diff]
 omega
theorem spr_good {o:Int} {n:Nat} {f:Nat→T} {m:Nat} {g:Nat→T} (h:sprOk o n f m g=true) :
  ((sprU o n f m g).m.ok=true∧1≤(sprU o n f m g).c∧(sprU o n f m g).c≤100)∧((sprV o n f m g).m.ok=true∧1≤(sprV o n f m g).c∧(sprV o n f m g).c≤100):=by
 have h':=h
 unfold sprOk at h'
 rw [Bool.and_eq_true] at h'
 have ga:=lead_good h'.1
 have gb:=lead_good h'.2
 obtain ⟨d1,d2,_⟩:=M.both_facts ga.1 gb.1 (rfl:M.both (leadT o n f).m (leadT o m g).m=sprB o n f m g)
 unfold sprU sprV
 rw [if_pos h,if_pos h]
 exact ⟨sprT_good ga d1,sprT_good gb d2⟩
theorem sum_over {l b:M} (hd:l.dvd b=true):M.mul (M.over b l).1 l=(b,true):=by
 rw [M.over,if_pos hd]
 obtain ⟨h1,h2,h3⟩:=M.dvd_iff hd
 have k1:=M.ok_iff.1 h1
 have k2:=M.ok_iff.1 h2
 have hok:(b.diff l).ok=true:=by
  refine M.ok_iff.2 ?_
  simp only [M.diff]
  omega
 have hs:(b.diff l).sum l=b:=by
  cases b;cases l
  simp only [M.diff,M.sum,M.mk.injEq]
  omega
 unfold M.mul
 rw [hs,if_pos ⟨hok,h1,h2⟩]
theorem mx_two (a b:Int):mx a b - a=0∨mx a b - b=0:=by unfold mx;split <;> omega
theorem spr_law {o:Int} {n:Nat} {f:Nat→T} {m:Nat} {g:Nat→T} (h:sprOk o n f m g=true) :
  M.mul (sprU o n f m g).m (leadT o n f).m=(sprB o n f m g,true)∧M.mul (sprV o n f m g).m (leadT o m g).m=(sprB o n f m g,true)∧fMul (sprU o n f m g).c (leadT o n f).c=1∧fMul (sprV o n f m g).c (leadT o m g).c=1 ∧
  ((sprU o n f m g).m.x=0∨(sprV o n f m g).m.x=0)∧((sprU o n f m g).m.y=0∨(sprV o n f m g).m.y=0)∧((sprU o n f m g).m.d=0∨(sprV o n f m g).m.d=0)∧((sprU o n f m g).m.e=0∨(sprV o n f m g).m.e=0):=by
 have h':=h
 unfold sprOk at h'
 rw [Bool.and_eq_true] at h'
 have ga:=lead_good h'.1
 have gb:=lead_good h'.2
 obtain ⟨d1,d2,_⟩:=M.both_facts ga.1 gb.1 (rfl:M.both (leadT o n f).m (leadT o m g).m=sprB o n f m g)
 have d1:(leadT o n f).m.dvd (sprB o n f m g)=true:=d1
 have d2:(leadT o m g).m.dvd (sprB o n f m g)=true:=d2
 unfold sprU sprV
 rw [if_pos h,if_pos h]
 refine ⟨sum_over d1,sum_over d2,fMul_inv ⟨by omega,ga.2.2⟩ (by omega),fMul_inv ⟨by omega,gb.2.2⟩ (by omega),?_⟩
 have e1:(sprT (leadT o n f) (sprB o n f m g)).m=(sprB o n f m g).diff (leadT o n f).m:=by show (M.over _ _).1=_;rw [M.over,if_pos d1]
 have e2:(sprT (leadT o m g) (sprB o n f m g)).m=(sprB o n f m g).diff (leadT o m g).m:=by show (M.over _ _).1=_;rw [M.over,if_pos d2]
 rw [e1,e2]
 unfold sprB
 rw [M.both,if_pos ⟨ga.1,gb.1⟩]
 exact ⟨mx_two _ _,mx_two _ _,mx_two _ _,mx_two _ _⟩
end Go.Proofs.YtdidlcjhodejjaaGreat
