/-
  What the functions of chapter 2's model return: monomials as four numbers.
-/
import Derived.Test.YtdidlcjhodejjaaGreatMam
set_option maxHeartbeats 4000000
set_option maxRecDepth 100000
namespace Go.Proofs.YtdidlcjhodejjaaGreat
open Go.RowKit
set_option linter.unusedVariables false
def mx (a b:Int):Int:=if b<a then a else b
def M.both (a b:M):M:=if a.ok=true∧b.ok=true then⟨mx a.x b.x,mx a.y b.y,mx a.d b.d,mx a.e b.e⟩else M.zero
theorem Td (a b:Int) (w:World):Calls Tryz.prog 173 #[.int .i64 a,.int .i64 b] w fun r w'=>r= .returned (.int .i64 (mx a b))∧w'=w:=by
 by_cases h:b<a
 ·have e1:mx a b=a:=if_pos h;rw[e1];go_enter Tryz.func173,Tryz.ntmps173;go_wp2;go_ret;exact⟨rfl,rfl⟩
 ·have e1:mx a b=b:=if_neg h;rw[e1];go_enter Tryz.func173,Tryz.ntmps173;go_wp2;go_ret;exact⟨rfl,rfl⟩
theorem Hz {w:World} {B b o o0 o1 o2 o3:Nat} {u0 u1 u2 u3:Value} (h:b≠B):((((w.setCell ⟨B,o0,none⟩ u0).setCell ⟨B,o1,none⟩ u1).setCell ⟨B,o2,none⟩ u2).setCell ⟨B,o3,none⟩ u3).cell? ⟨b,o,none⟩=w.cell? ⟨b,o,none⟩:=by refine mB ?_;rw[Below.heap_setCell _ _ _ _ h,Below.heap_setCell _ _ _ _ h,Below.heap_setCell _ _ _ _ h,Below.heap_setCell _ _ _ _ h]
def zZ (g:Nat→T) (lb:Nat):Nat→T:=lf (LP 100 g lb)
def lO (f:Nat→T) (la:Nat) (g:Nat→T) (lb:Nat):List T×Bool:=
 if aN la f=true∧aN lb g=true∧(iM f la (zZ g lb) lb 0 0).length≤400 then(iM f la (zZ g lb) lb 0 0,true)else([],false)
theorem DH (f:Nat→T) (la:Nat) (g:Nat→T) (lb:Nat):(lO f la g lb).1.length≤400:=by
 unfold lO;split
 ·rename_i h;exact h.2.2
 ·simp
def S8 (u:World) (n:Nat) (x0 y0 z0 u0 x1 y1 z1 u1:Int):Prop:=u.cell? ⟨n,0,none⟩=some (.int .i64 x0)∧u.cell? ⟨n,1,none⟩=some (.int .i64 y0)∧u.cell? ⟨n,2,none⟩=some (.int .i64 z0)∧u.cell? ⟨n,3,none⟩=some (.int .i64 u0)∧u.cell? ⟨n+1,0,none⟩=some (.int .i64 x1)∧u.cell? ⟨n+1,1,none⟩=some (.int .i64 y1)∧u.cell? ⟨n+1,2,none⟩=some (.int .i64 z1)∧u.cell? ⟨n+1,3,none⟩=some (.int .i64 u1)
theorem S8.mk {u:World} {n:Nat} {x0 y0 z0 u0 x1 y1 z1 u1:Int} (ha:M4 u n x0 y0 z0 u0) (hb:M4 u (n+1) x1 y1 z1 u1):S8 u n x0 y0 z0 u0 x1 y1 z1 u1:=
 ⟨ha.1,ha.2.1,ha.2.2.1,ha.2.2.2,hb.1,hb.2.1,hb.2.2.1,hb.2.2.2⟩
theorem S8.a {u:World} {n:Nat} {x0 y0 z0 u0 x1 y1 z1 u1:Int} (h:S8 u n x0 y0 z0 u0 x1 y1 z1 u1):M4 u n x0 y0 z0 u0:=⟨h.1,h.2.1,h.2.2.1,h.2.2.2.1⟩
theorem S8.b {u:World} {n:Nat} {x0 y0 z0 u0 x1 y1 z1 u1:Int} (h:S8 u n x0 y0 z0 u0 x1 y1 z1 u1):M4 u (n+1) x1 y1 z1 u1:=⟨h.2.2.2.2.1,h.2.2.2.2.2.1,h.2.2.2.2.2.2.1,h.2.2.2.2.2.2.2⟩
theorem Kc {u:World} {n:Nat} {x0 y0 z0 u0 x1 y1 z1 u1:Int} (h:S8 u n x0 y0 z0 u0 x1 y1 z1 u1):S8 u.drew n x0 y0 z0 u0 x1 y1 z1 u1:=.mk h.a.drew' h.b.drew'
theorem Dg {u:World} {B b:Nat} {v0 v1 v2 v3:Value} {x y d e:Int} (m:M4 u b x y d e) (h:b≠B):M4 ((((u.setCell ⟨B,0,none⟩ v0).setCell ⟨B,1,none⟩ v1).setCell ⟨B,2,none⟩ v2).setCell ⟨B,3,none⟩ v3) b x y d e:=
 ⟨(Hz h).trans m.1,(Hz h).trans m.2.1,(Hz h).trans m.2.2.1,(Hz h).trans m.2.2.2⟩
theorem Oh {u:World} {n B:Nat} {v0 v1 v2 v3:Value} {x0 y0 z0 u0 x1 y1 z1 u1:Int} (h:S8 u n x0 y0 z0 u0 x1 y1 z1 u1) (hB:n+1<B):S8 ((((u.setCell ⟨B,0,none⟩ v0).setCell ⟨B,1,none⟩ v1).setCell ⟨B,2,none⟩ v2).setCell ⟨B,3,none⟩ v3) n x0 y0 z0 u0 x1 y1 z1 u1:=
 .mk (Dg h.a (by omega)) (Dg h.b (by omega))
theorem Do (x y d e x' y' d' e':Int) (w:World):Calls Tryz.prog 159 #[.agg #[.int .i64 x,.int .i64 y,.int .i64 d,.int .i64 e],.agg #[.int .i64 x',.int .i64 y',.int .i64 d',.int .i64 e']] w fun r w'=>r= .returned (.agg #[.int .i64 (M.both ⟨x,y,d,e⟩ ⟨x',y',d',e'⟩).x,.int .i64 (M.both ⟨x,y,d,e⟩ ⟨x',y',d',e'⟩).y,.int .i64 (M.both ⟨x,y,d,e⟩ ⟨x',y',d',e'⟩).d,.int .i64 (M.both ⟨x,y,d,e⟩ ⟨x',y',d',e'⟩).e])∧Below w.heap.size w w':=by
 cases ha:M.ok ⟨x,y,d,e⟩
 ·have r1:M.both ⟨x,y,d,e⟩ ⟨x',y',d',e'⟩=M.zero:=by simp[M.both,ha]
  rw[r1];simp only[M.zero];clear r1;go_enter Tryz.func159,Tryz.ntmps159;go_wp2_with fail;refine(cD ha _).mono ?_;rintro r w1 ⟨rfl,hb1⟩;obtain⟨hc1,hf1⟩:=aP hb1;have hz1:w.heap.size+1+1<w1.heap.size:=by have:=hb1.size;simp at this;omega
  go_wp2;refine bY (v:=.agg #[.int .i64 0,.int .i64 0,.int .i64 0,.int .i64 0]) (by simp[results,Tryz.results159,go_sem, *]) rfl ⟨rfl,?_⟩;exact eD (aB (aY w _ _ _) hb1) (by omega) _ _ _ _
 ·cases hb:M.ok ⟨x',y',d',e'⟩
  ·have r1:M.both ⟨x,y,d,e⟩ ⟨x',y',d',e'⟩=M.zero:=by simp[M.both,hb]
   rw[r1];simp only[M.zero];clear r1;go_enter Tryz.func159,Tryz.ntmps159;go_wp2_with fail;refine(cD ha _).mono ?_;rintro r w1 ⟨rfl,hb1⟩;obtain⟨hc1,hf1⟩:=aP hb1;have hz1:w.heap.size+1+1<w1.heap.size:=by have:=hb1.size;simp at this;omega
   go_wp2_with fail;refine(cD hb _).mono ?_;rintro r w2 ⟨rfl,hb2⟩;obtain⟨hc2,hf2⟩:=aP hb2;have hz2:w.heap.size+1+1<w2.heap.size:=by have:=hb2.size;omega
   go_wp2;refine bY (v:=.agg #[.int .i64 0,.int .i64 0,.int .i64 0,.int .i64 0]) (by simp[results,Tryz.results159,go_sem, *]) rfl ⟨rfl,?_⟩;exact eD (aB (aB (aY w _ _ _) hb1) hb2) (by omega) _ _ _ _
  ·have r1:M.both ⟨x,y,d,e⟩ ⟨x',y',d',e'⟩=⟨mx x x',mx y y',mx d d',mx e e'⟩:=by simp[M.both,ha,hb]
   rw[r1];clear r1;go_enter Tryz.func159,Tryz.ntmps159;go_wp2_with fail;refine(cD ha _).mono ?_;rintro r w1 ⟨rfl,hb1⟩;obtain⟨hc1,hf1⟩:=aP hb1;have hz1:w.heap.size+1+1<w1.heap.size:=by have:=hb1.size;simp at this;omega
   have hz0:w.heap.size+1<w1.heap.size:=by omega
   have hzz:w.heap.size<w1.heap.size:=by omega
   go_wp2_with fail;refine(cD hb _).mono ?_;rintro r w2 ⟨rfl,hb2⟩;obtain⟨hc2,hf2⟩:=aP hb2;have hz2:w.heap.size+1+1<w2.heap.size:=by have:=hb2.size;omega
   have q0:w2.cell? ⟨w.heap.size,0,none⟩=some (.int .i64 x):=by go_simp
   have q1:w2.cell? ⟨w.heap.size,1,none⟩=some (.int .i64 y):=by go_simp
   have q2:w2.cell? ⟨w.heap.size,2,none⟩=some (.int .i64 d):=by go_simp
   have q3:w2.cell? ⟨w.heap.size,3,none⟩=some (.int .i64 e):=by go_simp
   have p0:w2.cell? ⟨w.heap.size+1,0,none⟩=some (.int .i64 x'):=by go_simp
   have p1:w2.cell? ⟨w.heap.size+1,1,none⟩=some (.int .i64 y'):=by go_simp
   have p2:w2.cell? ⟨w.heap.size+1,2,none⟩=some (.int .i64 d'):=by go_simp
   have p3:w2.cell? ⟨w.heap.size+1,3,none⟩=some (.int .i64 e'):=by go_simp
   have t0:w2.cell? ⟨w.heap.size+1+1,0,none⟩=some (.int .i64 0):=by go_simp
   have t1:w2.cell? ⟨w.heap.size+1+1,1,none⟩=some (.int .i64 0):=by go_simp
   have t2:w2.cell? ⟨w.heap.size+1+1,2,none⟩=some (.int .i64 0):=by go_simp
   have t3:w2.cell? ⟨w.heap.size+1+1,3,none⟩=some (.int .i64 0):=by go_simp
   have z0:∀i,w2.frozen? ⟨w.heap.size+1+1,i,none⟩=false:=fun i=>by go_simp
   have HB:=aA (aB (aB (aY w _ _ _) hb1) hb2);clear hc1 hf1 hc2 hf2 hb1 hb2;go_wp2_with fail;have hS0:S8 w2 w.heap.size x y d e x' y' d' e':=⟨q0,q1,q2,q3,p0,p1,p2,p3⟩
   go_region_held3 (fun u=>u.cell? ⟨w.heap.size,0,none⟩=some (.int .i64 x)∧u.cell? ⟨w.heap.size,1,none⟩=some (.int .i64 y)∧u.cell? ⟨w.heap.size,2,none⟩=some (.int .i64 d)∧u.cell? ⟨w.heap.size,3,none⟩=some (.int .i64 e)∧u.cell? ⟨w.heap.size+1,0,none⟩=some (.int .i64 x')∧u.cell? ⟨w.heap.size+1,1,none⟩=some (.int .i64 y')∧u.cell? ⟨w.heap.size+1,2,none⟩=some (.int .i64 d')∧u.cell? ⟨w.heap.size+1,3,none⟩=some (.int .i64 e')) (first|exact Kc hS0|exact Oh (by assumption) (by omega)) (first|(go_at_call 173;refine(Td _ _ _).mono ?_;rintro r w7 ⟨rfl,hw7⟩;obtain rfl:=hw7.symm;clear hw7))
   go_wp2;refine bY (v:=.agg #[.int .i64 (mx x x'),.int .i64 (mx y y'),.int .i64 (mx d d'),.int .i64 (mx e e')]) (by simp[results,Tryz.results159,go_sem, *]) rfl ⟨rfl,?_⟩;exact eD HB.out.drew (by omega) _ _ _ _
theorem NQ {x y d e x' y' d' e':Int} {m:M} (h:M.both ⟨x,y,d,e⟩ ⟨x',y',d',e'⟩=m) (w:World):Calls Tryz.prog 159 #[.agg #[.int .i64 x,.int .i64 y,.int .i64 d,.int .i64 e],.agg #[.int .i64 x',.int .i64 y',.int .i64 d',.int .i64 e']] w fun r w'=>r= .returned (.agg #[.int .i64 m.x,.int .i64 m.y,.int .i64 m.d,.int .i64 m.e])∧Below w.heap.size w w':=by have:=Do x y d e x' y' d' e' w;rw[h]at this;exact this
theorem vN {a b:M} (ha:a.ok=true) (hb:b.ok=true) (h:a.x≤b.x∧a.y≤b.y∧a.d≤b.d∧a.e≤b.e):a.dvd b=true:=by simp[M.dvd,ha,hb,h]
theorem UR {a b l h:Int} (ha:l≤a∧a≤h) (hb:l≤b∧b≤h):l≤mx a b∧mx a b≤h∧a≤mx a b∧b≤mx a b:=by unfold mx;split<;>omega
theorem US {a b c:Int} (ha:a≤c) (hb:b≤c):mx a b≤c:=by unfold mx;split<;>omega
theorem vM {a b p:M} (ha:a.ok=true) (hb:b.ok=true) (hp:M.both a b=p):a.dvd p=true∧b.dvd p=true∧(∀c:M,a.dvd c=true→b.dvd c=true→p.dvd c=true)∧M.both a a=a:=by
 rw[M.both,if_pos ⟨ha,hb⟩]at hp;subst hp;have ka:=M.ok_iff.1 ha
 have kb:=M.ok_iff.1 hb;have hx:=UR (a:=a.x) (b:=b.x) (l:=0) (h:=15) (by omega) (by omega)
 have hy:=UR (a:=a.y) (b:=b.y) (l:=0) (h:=15) (by omega) (by omega);have hd:=UR (a:=a.d) (b:=b.d) (l:=0) (h:=15) (by omega) (by omega)
 have he:=UR (a:=a.e) (b:=b.e) (l:=0) (h:=15) (by omega) (by omega);have hok:M.ok ⟨mx a.x b.x,mx a.y b.y,mx a.d b.d,mx a.e b.e⟩=true:=M.ok_iff.2 (by dsimp only;omega)
 refine⟨vN ha hok (by dsimp only;omega),vN hb hok (by dsimp only;omega),fun c h1 h2=>?_,?_⟩
 ·have k1:=jJ h1;have k2:=jJ h2
  exact vN hok k1.2.1 ⟨US k1.2.2.1 k2.2.2.1,US k1.2.2.2.1 k2.2.2.2.1,US k1.2.2.2.2.1 k2.2.2.2.2.1,US k1.2.2.2.2.2 k2.2.2.2.2.2⟩
 ·rw[M.both,if_pos ⟨ha,ha⟩];have:∀z:Int,mx z z=z:=fun z=>by unfold mx;split<;>rfl
  simp only[this]
open Go.RowKit Go.Deep Go.Joins
def gB (o:Int) (n:Nat) (f:Nat→T) (m:Nat) (g:Nat→T):Bool:=bF o n f&&bF o m g
def oH (o:Int) (n:Nat) (f:Nat→T) (m:Nat) (g:Nat→T):M:=M.both (bQ o n f).m (bQ o m g).m
def gL (o:Int) (n:Nat) (f:Nat→T) (m:Nat) (g:Nat→T):T:=if gB o n f m g=true then iQ (bQ o n f) (oH o n f m g)else cB
def gM (o:Int) (n:Nat) (f:Nat→T) (m:Nat) (g:Nat→T):T:=if gB o n f m g=true then iQ (bQ o m g) (oH o n f m g)else cB
abbrev Q5 (B:Nat) (q:M) (u:World):Prop:=u.cell? ⟨B,0,none⟩=some (.int .i64 1)∧u.cell? ⟨B,1,none⟩=some (.int .i64 q.x)∧u.cell? ⟨B,2,none⟩=some (.int .i64 q.y)∧u.cell? ⟨B,3,none⟩=some (.int .i64 q.d)∧u.cell? ⟨B,4,none⟩=some (.int .i64 q.e)
theorem Q5.below {B:Nat} {q:M} {u u':World} (h:Q5 B q u) (hb:Below u.heap.size u u'):Q5 B q u':=
 have l:=cX u ⟨B,0,none⟩ h.1
 ⟨(hb.cell (p:=⟨B,0,none⟩) l).trans h.1,(hb.cell (p:=⟨B,1,none⟩) l).trans h.2.1,(hb.cell (p:=⟨B,2,none⟩) l).trans h.2.2.1,(hb.cell (p:=⟨B,3,none⟩) l).trans h.2.2.2.1,(hb.cell (p:=⟨B,4,none⟩) l).trans h.2.2.2.2⟩
theorem Q5.far {w:World} {B b:Nat} {q:M} {v0 v1 v2 v3 v4:Value} (m:Q5 b q w) (h:b≠B):Q5 b q (((((w.setCell ⟨B,0,none⟩ v0).setCell ⟨B,1,none⟩ v1).setCell ⟨B,2,none⟩ v2).setCell ⟨B,3,none⟩ v3).setCell ⟨B,4,none⟩ v4):=
 ⟨(tV h).trans m.1,(tV h).trans m.2.1,(tV h).trans m.2.2.1,(tV h).trans m.2.2.2.1,(tV h).trans m.2.2.2.2⟩
theorem NZ {l:T} {b:M}:gI ⟨1,b⟩ l=iQ l b:=by
 unfold gI iQ;have:=oQ l.c
 congr 1;show 1*kN l.c%101=kN l.c
 omega
theorem PT (w:World) (o:Int) (a:Option Addr) (n ca:Nat) (f:Nat→T) (b:Option Addr) (m cb:Nat) (g:Nat→T) (ha:Rd w a n ca f) (hb:Rd w b m cb g) (ho':o<1∨(1≤o∧3<o)):Calls Tryz.prog 136 #[.int .i64 o,.slice a n ca,.slice b m cb] w fun r w'=>r= .returned (.tuple #[.agg #[.int .i64 0,.int .i64 0,.int .i64 0,.int .i64 0,.int .i64 0],.agg #[.int .i64 0,.int .i64 0,.int .i64 0,.int .i64 0,.int .i64 0],.bool false])∧Below w.heap.size w w':=by
 have HA:=aA ha;have HB:=aA hb
 have hla:(n:Int)≤140737488351232:=by have:=ha.2.1;omega
 have hlb:(m:Int)≤140737488351232:=by have:=hb.2.1;omega
 have HB0:=aA (aR w (.cells #[.int .i64 0,.int .i64 0,.int .i64 0,.int .i64 0,.int .i64 0] 42) (.cells #[.int .i64 0,.int .i64 0,.int .i64 0,.int .i64 0,.int .i64 0] 42));have oA0:=(cJ.box w 42 cB).below (aC (w.alloc (.cells #[.int .i64 0,.int .i64 0,.int .i64 0,.int .i64 0,.int .i64 0] 42)) (.cells #[.int .i64 0,.int .i64 0,.int .i64 0,.int .i64 0,.int .i64 0] 42))
 have oB0:=cJ.box (w.alloc (.cells #[.int .i64 0,.int .i64 0,.int .i64 0,.int .i64 0,.int .i64 0] 42)) 42 cB;rw[World.size_alloc]at oB0;have OA:=aA oA0
 have OB:=aA oB0;clear ha hb oA0 oB0;go_enter Tryz.func136,Tryz.ntmps136;go_wp2_with (go_at_call 39;refine(eC _ _ _ _ ho').mono ?_;rintro r w' ⟨rfl,hw'⟩;obtain rfl:=hw'.symm;clear hw');refine bY (v:=.tuple #[.agg #[.int .i64 0,.int .i64 0,.int .i64 0,.int .i64 0,.int .i64 0],.agg #[.int .i64 0,.int .i64 0,.int .i64 0,.int .i64 0,.int .i64 0],.bool false]) (by simp[results,Tryz.results136,go_sem, *]) rfl ⟨rfl,HB0.out⟩
theorem PO (w:World) (o:Int) (a:Option Addr) (n ca:Nat) (f:Nat→T) (b:Option Addr) (m cb:Nat) (g:Nat→T) (ha:Rd w a n ca f) (hb:Rd w b m cb g) (o1:1≤o) (o2:o≤3) (hp:aN n f=false):Calls Tryz.prog 136 #[.int .i64 o,.slice a n ca,.slice b m cb] w fun r w'=>r= .returned (.tuple #[.agg #[.int .i64 0,.int .i64 0,.int .i64 0,.int .i64 0,.int .i64 0],.agg #[.int .i64 0,.int .i64 0,.int .i64 0,.int .i64 0,.int .i64 0],.bool false])∧Below w.heap.size w w':=by
 have HA:=aA ha;have HB:=aA hb
 have hla:(n:Int)≤140737488351232:=by have:=ha.2.1;omega
 have hlb:(m:Int)≤140737488351232:=by have:=hb.2.1;omega
 have HB0:=aA (aR w (.cells #[.int .i64 0,.int .i64 0,.int .i64 0,.int .i64 0,.int .i64 0] 42) (.cells #[.int .i64 0,.int .i64 0,.int .i64 0,.int .i64 0,.int .i64 0] 42));have oA0:=(cJ.box w 42 cB).below (aC (w.alloc (.cells #[.int .i64 0,.int .i64 0,.int .i64 0,.int .i64 0,.int .i64 0] 42)) (.cells #[.int .i64 0,.int .i64 0,.int .i64 0,.int .i64 0,.int .i64 0] 42))
 have oB0:=cJ.box (w.alloc (.cells #[.int .i64 0,.int .i64 0,.int .i64 0,.int .i64 0,.int .i64 0] 42)) 42 cB;rw[World.size_alloc]at oB0;have OA:=aA oA0
 have OB:=aA oB0;clear ha hb oA0 oB0;go_enter Tryz.func136,Tryz.ntmps136;go_wp2_with (go_at_call 39;refine(cQ _ _ _ _ o1 o2).mono ?_;rintro r w' ⟨rfl,hw'⟩;obtain rfl:=hw'.symm;clear hw');refine(kI _ _ _ _ f (HA.out.below HB0.out)).mono ?_;rw[hp];rintro r w1 ⟨rfl,hb1⟩;have HB1:=aA (aB HB0.out hb1)
 have OA1:=aA (OA.out.below hb1);have OB1:=aA (OB.out.below hb1)
 clear hb1 OA OB;obtain⟨⟨e0,e1,e2,e3,e4⟩,ez⟩:=OA1.out;obtain⟨⟨g0,g1,g2,g3,g4⟩,gz⟩:=OB1.out;have hl2:w.heap.size+1<w1.heap.size:=cX w1 _ g0
 have hl1:w.heap.size<w1.heap.size:=by omega
 go_wp2;refine bY (v:=.tuple #[.agg #[.int .i64 0,.int .i64 0,.int .i64 0,.int .i64 0,.int .i64 0],.agg #[.int .i64 0,.int .i64 0,.int .i64 0,.int .i64 0,.int .i64 0],.bool false]) (by simp[results,Tryz.results136,go_sem, *]) rfl ⟨rfl,?_⟩;with_reducible exact cE (cE HB1.out (by omega) _ _ _ _ _) (by omega) _ _ _ _ _
theorem PP (w:World) (o:Int) (a:Option Addr) (n ca:Nat) (f:Nat→T) (b:Option Addr) (m cb:Nat) (g:Nat→T) (ha:Rd w a n ca f) (hb:Rd w b m cb g) (o1:1≤o) (o2:o≤3) (hp:aN n f=true) (hq:aN m g=false):Calls Tryz.prog 136 #[.int .i64 o,.slice a n ca,.slice b m cb] w fun r w'=>r= .returned (.tuple #[.agg #[.int .i64 0,.int .i64 0,.int .i64 0,.int .i64 0,.int .i64 0],.agg #[.int .i64 0,.int .i64 0,.int .i64 0,.int .i64 0,.int .i64 0],.bool false])∧Below w.heap.size w w':=by
 have HA:=aA ha;have HB:=aA hb
 have hla:(n:Int)≤140737488351232:=by have:=ha.2.1;omega
 have hlb:(m:Int)≤140737488351232:=by have:=hb.2.1;omega
 have HB0:=aA (aR w (.cells #[.int .i64 0,.int .i64 0,.int .i64 0,.int .i64 0,.int .i64 0] 42) (.cells #[.int .i64 0,.int .i64 0,.int .i64 0,.int .i64 0,.int .i64 0] 42));have oA0:=(cJ.box w 42 cB).below (aC (w.alloc (.cells #[.int .i64 0,.int .i64 0,.int .i64 0,.int .i64 0,.int .i64 0] 42)) (.cells #[.int .i64 0,.int .i64 0,.int .i64 0,.int .i64 0,.int .i64 0] 42))
 have oB0:=cJ.box (w.alloc (.cells #[.int .i64 0,.int .i64 0,.int .i64 0,.int .i64 0,.int .i64 0] 42)) 42 cB;rw[World.size_alloc]at oB0;have OA:=aA oA0
 have OB:=aA oB0;clear ha hb oA0 oB0;go_enter Tryz.func136,Tryz.ntmps136;go_wp2_with (go_at_call 39;refine(cQ _ _ _ _ o1 o2).mono ?_;rintro r w' ⟨rfl,hw'⟩;obtain rfl:=hw'.symm;clear hw');refine(kI _ _ _ _ f (HA.out.below HB0.out)).mono ?_;rw[hp];rintro r w1 ⟨rfl,hb1⟩;have HB1:=aA (aB HB0.out hb1)
 have OA1:=aA (OA.out.below hb1);have OB1:=aA (OB.out.below hb1)
 clear hb1 OA OB;go_wp2_with fail;refine(kI _ _ _ _ g (HB.out.below HB1.out)).mono ?_;rw[hq];rintro r w2 ⟨rfl,hb1⟩;have HB2:=aA (aB HB1.out hb1)
 have OA11:=aA (OA1.out.below hb1);have OB11:=aA (OB1.out.below hb1)
 clear hb1 OA1 OB1;obtain⟨⟨e0,e1,e2,e3,e4⟩,ez⟩:=OA11.out;obtain⟨⟨g0,g1,g2,g3,g4⟩,gz⟩:=OB11.out;have hl2:w.heap.size+1<w2.heap.size:=cX w2 _ g0
 have hl1:w.heap.size<w2.heap.size:=by omega
 go_wp2;refine bY (v:=.tuple #[.agg #[.int .i64 0,.int .i64 0,.int .i64 0,.int .i64 0,.int .i64 0],.agg #[.int .i64 0,.int .i64 0,.int .i64 0,.int .i64 0,.int .i64 0],.bool false]) (by simp[results,Tryz.results136,go_sem, *]) rfl ⟨rfl,?_⟩;with_reducible exact cE (cE HB2.out (by omega) _ _ _ _ _) (by omega) _ _ _ _ _
theorem PR (w:World) (o:Int) (a:Option Addr) (n ca:Nat) (f:Nat→T) (b:Option Addr) (m cb:Nat) (g:Nat→T) (ha:Rd w a n ca f) (hb:Rd w b m cb g) (o1:1≤o) (o2:o≤3) (hp:aN n f=true) (hq:aN m g=true) (h0:n=0):Calls Tryz.prog 136 #[.int .i64 o,.slice a n ca,.slice b m cb] w fun r w'=>r= .returned (.tuple #[.agg #[.int .i64 0,.int .i64 0,.int .i64 0,.int .i64 0,.int .i64 0],.agg #[.int .i64 0,.int .i64 0,.int .i64 0,.int .i64 0,.int .i64 0],.bool false])∧Below w.heap.size w w':=by
 have HA:=aA ha;have HB:=aA hb
 have hla:(n:Int)≤140737488351232:=by have:=ha.2.1;omega
 have hlb:(m:Int)≤140737488351232:=by have:=hb.2.1;omega
 have HB0:=aA (aR w (.cells #[.int .i64 0,.int .i64 0,.int .i64 0,.int .i64 0,.int .i64 0] 42) (.cells #[.int .i64 0,.int .i64 0,.int .i64 0,.int .i64 0,.int .i64 0] 42));have oA0:=(cJ.box w 42 cB).below (aC (w.alloc (.cells #[.int .i64 0,.int .i64 0,.int .i64 0,.int .i64 0,.int .i64 0] 42)) (.cells #[.int .i64 0,.int .i64 0,.int .i64 0,.int .i64 0,.int .i64 0] 42))
 have oB0:=cJ.box (w.alloc (.cells #[.int .i64 0,.int .i64 0,.int .i64 0,.int .i64 0,.int .i64 0] 42)) 42 cB;rw[World.size_alloc]at oB0;have OA:=aA oA0
 have OB:=aA oB0;clear ha hb oA0 oB0;have hne:((n:Int)==0)=true:=by simp;omega
 clear h0;go_enter Tryz.func136,Tryz.ntmps136;go_wp2_with (go_at_call 39;refine(cQ _ _ _ _ o1 o2).mono ?_;rintro r w' ⟨rfl,hw'⟩;obtain rfl:=hw'.symm;clear hw');refine(kI _ _ _ _ f (HA.out.below HB0.out)).mono ?_;rw[hp];rintro r w1 ⟨rfl,hb1⟩;have HB1:=aA (aB HB0.out hb1)
 have OA1:=aA (OA.out.below hb1);have OB1:=aA (OB.out.below hb1)
 clear hb1 OA OB;go_wp2_with fail;refine(kI _ _ _ _ g (HB.out.below HB1.out)).mono ?_;rw[hq];rintro r w2 ⟨rfl,hb1⟩;have HB2:=aA (aB HB1.out hb1)
 have OA11:=aA (OA1.out.below hb1);have OB11:=aA (OB1.out.below hb1)
 clear hb1 OA1 OB1;obtain⟨⟨e0,e1,e2,e3,e4⟩,ez⟩:=OA11.out;obtain⟨⟨g0,g1,g2,g3,g4⟩,gz⟩:=OB11.out;have hl2:w.heap.size+1<w2.heap.size:=cX w2 _ g0
 have hl1:w.heap.size<w2.heap.size:=by omega
 go_wp2;refine bY (v:=.tuple #[.agg #[.int .i64 0,.int .i64 0,.int .i64 0,.int .i64 0,.int .i64 0],.agg #[.int .i64 0,.int .i64 0,.int .i64 0,.int .i64 0,.int .i64 0],.bool false]) (by simp[results,Tryz.results136,go_sem, *]) rfl ⟨rfl,?_⟩;with_reducible exact cE (cE HB2.out (by omega) _ _ _ _ _) (by omega) _ _ _ _ _
theorem PQ (w:World) (o:Int) (a:Option Addr) (n ca:Nat) (f:Nat→T) (b:Option Addr) (m cb:Nat) (g:Nat→T) (ha:Rd w a n ca f) (hb:Rd w b m cb g) (o1:1≤o) (o2:o≤3) (hp:aN n f=true) (hq:aN m g=true) (h0:n≠0) (h1:m=0):Calls Tryz.prog 136 #[.int .i64 o,.slice a n ca,.slice b m cb] w fun r w'=>r= .returned (.tuple #[.agg #[.int .i64 0,.int .i64 0,.int .i64 0,.int .i64 0,.int .i64 0],.agg #[.int .i64 0,.int .i64 0,.int .i64 0,.int .i64 0,.int .i64 0],.bool false])∧Below w.heap.size w w':=by
 have HA:=aA ha;have HB:=aA hb
 have hla:(n:Int)≤140737488351232:=by have:=ha.2.1;omega
 have hlb:(m:Int)≤140737488351232:=by have:=hb.2.1;omega
 have HB0:=aA (aR w (.cells #[.int .i64 0,.int .i64 0,.int .i64 0,.int .i64 0,.int .i64 0] 42) (.cells #[.int .i64 0,.int .i64 0,.int .i64 0,.int .i64 0,.int .i64 0] 42));have oA0:=(cJ.box w 42 cB).below (aC (w.alloc (.cells #[.int .i64 0,.int .i64 0,.int .i64 0,.int .i64 0,.int .i64 0] 42)) (.cells #[.int .i64 0,.int .i64 0,.int .i64 0,.int .i64 0,.int .i64 0] 42))
 have oB0:=cJ.box (w.alloc (.cells #[.int .i64 0,.int .i64 0,.int .i64 0,.int .i64 0,.int .i64 0] 42)) 42 cB;rw[World.size_alloc]at oB0;have OA:=aA oA0
 have OB:=aA oB0;clear ha hb oA0 oB0;have hne:((n:Int)==0)=false:=by simp;omega
 have hme:((m:Int)==0)=true:=by simp;omega
 clear h0 h1;go_enter Tryz.func136,Tryz.ntmps136;go_wp2_with (go_at_call 39;refine(cQ _ _ _ _ o1 o2).mono ?_;rintro r w' ⟨rfl,hw'⟩;obtain rfl:=hw'.symm;clear hw');refine(kI _ _ _ _ f (HA.out.below HB0.out)).mono ?_;rw[hp];rintro r w1 ⟨rfl,hb1⟩;have HB1:=aA (aB HB0.out hb1)
 have OA1:=aA (OA.out.below hb1);have OB1:=aA (OB.out.below hb1)
 clear hb1 OA OB;go_wp2_with fail;refine(kI _ _ _ _ g (HB.out.below HB1.out)).mono ?_;rw[hq];rintro r w2 ⟨rfl,hb1⟩;have HB2:=aA (aB HB1.out hb1)
 have OA11:=aA (OA1.out.below hb1);have OB11:=aA (OB1.out.below hb1)
 clear hb1 OA1 OB1;obtain⟨⟨e0,e1,e2,e3,e4⟩,ez⟩:=OA11.out;obtain⟨⟨g0,g1,g2,g3,g4⟩,gz⟩:=OB11.out;have hl2:w.heap.size+1<w2.heap.size:=cX w2 _ g0
 have hl1:w.heap.size<w2.heap.size:=by omega
 go_wp2;refine bY (v:=.tuple #[.agg #[.int .i64 0,.int .i64 0,.int .i64 0,.int .i64 0,.int .i64 0],.agg #[.int .i64 0,.int .i64 0,.int .i64 0,.int .i64 0,.int .i64 0],.bool false]) (by simp[results,Tryz.results136,go_sem, *]) rfl ⟨rfl,?_⟩;with_reducible exact cE (cE HB2.out (by omega) _ _ _ _ _) (by omega) _ _ _ _ _
theorem PU (w:World) (o:Int) (a:Option Addr) (n ca:Nat) (f:Nat→T) (b:Option Addr) (m cb:Nat) (g:Nat→T) (ha:Rd w a n ca f) (hb:Rd w b m cb g) (o1:1≤o) (o2:o≤3) (hp:aN n f=true) (hq:aN m g=true) (pn:0<n) (pm:0<m):Calls Tryz.prog 136 #[.int .i64 o,.slice a n ca,.slice b m cb] w fun r w'=>r= .returned (.tuple #[.agg #[.int .i64 (gL o n f m g).c,.int .i64 (gL o n f m g).m.x,.int .i64 (gL o n f m g).m.y,.int .i64 (gL o n f m g).m.d,.int .i64 (gL o n f m g).m.e],.agg #[.int .i64 (gM o n f m g).c,.int .i64 (gM o n f m g).m.x,.int .i64 (gM o n f m g).m.y,.int .i64 (gM o n f m g).m.d,.int .i64 (gM o n f m g).m.e],.bool (gB o n f m g)])∧Below w.heap.size w w':=by
 have HA:=aA ha;have HB:=aA hb
 have hla:(n:Int)≤140737488351232:=by have:=ha.2.1;omega
 have hlb:(m:Int)≤140737488351232:=by have:=hb.2.1;omega
 have HB0:=aA (aR w (.cells #[.int .i64 0,.int .i64 0,.int .i64 0,.int .i64 0,.int .i64 0] 42) (.cells #[.int .i64 0,.int .i64 0,.int .i64 0,.int .i64 0,.int .i64 0] 42));have oA0:=(cJ.box w 42 cB).below (aC (w.alloc (.cells #[.int .i64 0,.int .i64 0,.int .i64 0,.int .i64 0,.int .i64 0] 42)) (.cells #[.int .i64 0,.int .i64 0,.int .i64 0,.int .i64 0,.int .i64 0] 42))
 have oB0:=cJ.box (w.alloc (.cells #[.int .i64 0,.int .i64 0,.int .i64 0,.int .i64 0,.int .i64 0] 42)) 42 cB;rw[World.size_alloc]at oB0;have OA:=aA oA0
 have OB:=aA oB0;clear ha hb oA0 oB0;have hk1:bF o n f=true:=by unfold bF;rw[hp,decide_eq_true (show 1≤o∧o≤3 from⟨o1,o2⟩),decide_eq_true pn];rfl
 have hk2:bF o m g=true:=by unfold bF;rw[hq,decide_eq_true (show 1≤o∧o≤3 from⟨o1,o2⟩),decide_eq_true pm];rfl
 have hk:gB o n f m g=true:=by unfold gB;rw[hk1,hk2];rfl
 have eU:gL o n f m g=gI ⟨1,M.both (f (bD o f n)).m (g (bD o g m)).m⟩ (f (bD o f n)):=by rw[NZ];unfold gL oH;rw[if_pos hk,dP hk1,dP hk2]
 have eV:gM o n f m g=gI ⟨1,M.both (f (bD o f n)).m (g (bD o g m)).m⟩ (g (bD o g m)):=by rw[NZ];unfold gM oH;rw[if_pos hk,dP hk1,dP hk2]
 rw[eU,eV,hk];have hne:((n:Int)==0)=false:=by simp;omega
 have hme:((m:Int)==0)=false:=by simp;omega
 have HF:=aA (tO hp);have HG:=aA (tO hq)
 have c1:=fun(W:World) (h:Rd W a n ca f)=>qV W o a n ca f h pn HF.out;have c2:=fun(W:World) (h:Rd W b m cb g)=>qV W o b m cb g h pm HG.out
 have c3:=fun(W:World) (q:M) (h:Rd W a n ca f)=>JO W o ⟨1,q⟩ a n ca f h pn HF.out (show(0:Int)≤1 by decide) (show(1:Int)≤100 by decide);have c4:=fun(W:World) (q:M) (h:Rd W b m cb g)=>JO W o ⟨1,q⟩ b m cb g h pm HG.out (show(0:Int)≤1 by decide) (show(1:Int)≤100 by decide)
 clear eU eV hk hk1 hk2 pn pm;generalize f (bD o f n)=s at *;generalize g (bD o g m)=t at *;obtain⟨q,hqq⟩:∃q,M.both ⟨s.m.x,s.m.y,s.m.d,s.m.e⟩ ⟨t.m.x,t.m.y,t.m.d,t.m.e⟩=q:=⟨_,rfl⟩
 rw[show M.both s.m t.m=q from hqq];have d3:=fun W=>c3 W q
 have d4:=fun W=>c4 W q;clear c3 c4;generalize gI ⟨1,q⟩ s=U at *;generalize gI ⟨1,q⟩ t=V at *;dsimp only at d3 d4;have hfs:∀W:World,(Instr.field 42 (Value.agg #[.int .i64 s.c,.int .i64 s.m.x,.int .i64 s.m.y,.int .i64 s.m.d,.int .i64 s.m.e]) 1).run Tryz.prog W= .ok (Value.agg #[.int .i64 s.m.x,.int .i64 s.m.y,.int .i64 s.m.d,.int .i64 s.m.e]) W:=fun W=>by kernel_rfl
 have hft:∀W:World,(Instr.field 42 (Value.agg #[.int .i64 t.c,.int .i64 t.m.x,.int .i64 t.m.y,.int .i64 t.m.d,.int .i64 t.m.e]) 1).run Tryz.prog W= .ok (Value.agg #[.int .i64 t.m.x,.int .i64 t.m.y,.int .i64 t.m.d,.int .i64 t.m.e]) W:=fun W=>by kernel_rfl
 go_enter Tryz.func136,Tryz.ntmps136;go_wp2_with (go_at_call 39;refine(cQ _ _ _ _ o1 o2).mono ?_;rintro r w' ⟨rfl,hw'⟩;obtain rfl:=hw'.symm;clear hw');refine(kI _ _ _ _ f (HA.out.below HB0.out)).mono ?_;rw[hp];rintro r w1 ⟨rfl,hb1⟩;have HB1:=aA (aB HB0.out hb1)
 have OA1:=aA (OA.out.below hb1);have OB1:=aA (OB.out.below hb1)
 clear hb1 OA OB;go_wp2_with fail;refine(kI _ _ _ _ g (HB.out.below HB1.out)).mono ?_;rw[hq];rintro r w2 ⟨rfl,hb1⟩;have HB2:=aA (aB HB1.out hb1)
 have OA11:=aA (OA1.out.below hb1);have OB11:=aA (OB1.out.below hb1)
 clear hb1 OA1 OB1;go_wp2_with fail;refine(c1 _ (HA.out.below HB2.out)).mono ?_;rintro r w3 ⟨rfl,hb3⟩;have HB3:=aA (aB HB2.out hb3)
 have OA3:=aA (OA11.out.below hb3);have OB3:=aA (OB11.out.below hb3)
 clear hb3;go_wp2_with fail;refine(c2 _ (HB.out.below HB3.out)).mono ?_;rintro r w4 ⟨rfl,hb4⟩;have HB4:=aA (aB HB3.out hb4)
 have OA4:=aA (OA3.out.below hb4);have OB4:=aA (OB3.out.below hb4)
 clear hb4;go_wp2_with fail;refine(NQ hqq _).mono ?_;rintro r w5 ⟨rfl,hb5⟩;have HB5:=aA (aB HB4.out hb5)
 have OA5:=aA (OA4.out.below hb5);have OB5:=aA (OB4.out.below hb5)
 have SZ5:Hid (w.heap.size+1<w5.heap.size):=cX w5 _ OB5.out.1.1;clear hb5 hqq OA11 OB11 OA3 OB3 OA4 OB4 HB0 HB1 HB2 HB3 HB4 c1 c2 hp hq;have tC:=C5.box w5 42 ⟨1,q⟩
 have OA6:=aA (OA5.out.below (aC w5 (.cells #[.int .i64 1,.int .i64 q.x,.int .i64 q.y,.int .i64 q.d,.int .i64 q.e] 42)));have OB6:=aA (OB5.out.below (aC w5 (.cells #[.int .i64 1,.int .i64 q.x,.int .i64 q.y,.int .i64 q.d,.int .i64 q.e] 42)))
 have HB6:=aA (HB5.out.alloc HB5.out.size (.cells #[.int .i64 1,.int .i64 q.x,.int .i64 q.y,.int .i64 q.d,.int .i64 q.e] 42));go_wp2_with fail;clear OA5 OB5 HB5;generalize(w5.alloc (.cells #[.int .i64 1,.int .i64 q.x,.int .i64 q.y,.int .i64 q.d,.int .i64 q.e] 42))=W at *;have hbx:w5.heap.size≠w.heap.size∧w5.heap.size≠w.heap.size+1:=by have:=SZ5.out;omega
 obtain⟨hn1,hn2⟩:=hbx;have HA6:=aA (HA.out.below HB6.out.drew)
 have HBb6:=aA (HB.out.below HB6.out.drew);have tCd:Q5 w5.heap.size q W.drew:=tC
 have OAd:Hid (cJ W.drew w.heap.size cB):=OA6.out;have OBd:Hid (cJ W.drew (w.heap.size+1) cB):=OB6.out
 have HBd:=aA HB6.out.drew;clear OA6 OB6
 go_region_held3 (fun u=>u.cell? ⟨w5.heap.size,0,none⟩=some (.int .i64 1)∧u.cell? ⟨w5.heap.size,1,none⟩=some (.int .i64 q.x)∧u.cell? ⟨w5.heap.size,2,none⟩=some (.int .i64 q.y)∧u.cell? ⟨w5.heap.size,3,none⟩=some (.int .i64 q.d)∧u.cell? ⟨w5.heap.size,4,none⟩=some (.int .i64 q.e)) (first|with_reducible exact tCd|with_reducible exact Q5.below tCd b1|with_reducible exact Q5.below (Q5.below tCd b1) b2|with_reducible exact Q5.far (by assumption) hn1|with_reducible exact Q5.far (by assumption) hn2) (first|(go_at_call 86;(with_reducible refine(d3 _ HA6.out).mono ?_);rintro r w6 ⟨rfl,b1⟩)|(go_at_call 86;(with_reducible refine(d4 _ (HBb6.out.below b1)).mono ?_);rintro r w7 ⟨rfl,b2⟩;obtain⟨⟨e0,e1,e2,e3,e4⟩,ez⟩:=(OAd.out.below b1).below b2;obtain⟨⟨g0,g1,g2,g3,g4⟩,gz⟩:=(OBd.out.below b1).below b2))
 have HB7:=aA (aB (aB HBd.out b1) b2);go_wp2;refine bY (v:=.tuple #[.agg #[.int .i64 U.c,.int .i64 U.m.x,.int .i64 U.m.y,.int .i64 U.m.d,.int .i64 U.m.e],.agg #[.int .i64 V.c,.int .i64 V.m.x,.int .i64 V.m.y,.int .i64 V.m.d,.int .i64 V.m.e],.bool true]) (by simp[results,Tryz.results136,go_sem, *]) rfl ⟨rfl,?_⟩;with_reducible exact cE (cE HB7.out (by omega) _ _ _ _ _) (by omega) _ _ _ _ _
theorem II (w:World) (o:Int) (a:Option Addr) (n ca:Nat) (f:Nat→T) (b:Option Addr) (m cb:Nat) (g:Nat→T) (ha:Rd w a n ca f) (hb:Rd w b m cb g):Calls Tryz.prog 136 #[.int .i64 o,.slice a n ca,.slice b m cb] w fun r w'=>r= .returned (.tuple #[.agg #[.int .i64 (gL o n f m g).c,.int .i64 (gL o n f m g).m.x,.int .i64 (gL o n f m g).m.y,.int .i64 (gL o n f m g).m.d,.int .i64 (gL o n f m g).m.e],.agg #[.int .i64 (gM o n f m g).c,.int .i64 (gM o n f m g).m.x,.int .i64 (gM o n f m g).m.y,.int .i64 (gM o n f m g).m.d,.int .i64 (gM o n f m g).m.e],.bool (gB o n f m g)])∧Below w.heap.size w w':=by
 have key:gB o n f m g=false→(Calls Tryz.prog 136 #[.int .i64 o,.slice a n ca,.slice b m cb] w fun r w'=>r= .returned (.tuple #[.agg #[.int .i64 0,.int .i64 0,.int .i64 0,.int .i64 0,.int .i64 0],.agg #[.int .i64 0,.int .i64 0,.int .i64 0,.int .i64 0,.int .i64 0],.bool false])∧Below w.heap.size w w')→Calls Tryz.prog 136 #[.int .i64 o,.slice a n ca,.slice b m cb] w fun r w'=>r= .returned (.tuple #[.agg #[.int .i64 (gL o n f m g).c,.int .i64 (gL o n f m g).m.x,.int .i64 (gL o n f m g).m.y,.int .i64 (gL o n f m g).m.d,.int .i64 (gL o n f m g).m.e],.agg #[.int .i64 (gM o n f m g).c,.int .i64 (gM o n f m g).m.x,.int .i64 (gM o n f m g).m.y,.int .i64 (gM o n f m g).m.d,.int .i64 (gM o n f m g).m.e],.bool (gB o n f m g)])∧Below w.heap.size w w':=fun hk h=>by
  have eU:gL o n f m g=cB:=if_neg (by rw[hk];decide);have eV:gM o n f m g=cB:=if_neg (by rw[hk];decide)
  rw[eU,eV,hk];exact h
 by_cases ho:1≤o∧o≤3
 ·obtain⟨o1,o2⟩:=ho;cases hp:aN n f
  ·exact key (by unfold gB bF;simp[hp]) (PO w o a n ca f b m cb g ha hb o1 o2 hp)
  ·cases hq:aN m g
   ·exact key (by unfold gB bF;simp[hq]) (PP w o a n ca f b m cb g ha hb o1 o2 hp hq)
   ·by_cases hn0:n=0
    ·exact key (by unfold gB bF;simp[hn0]) (PR w o a n ca f b m cb g ha hb o1 o2 hp hq hn0)
    ·by_cases hm0:m=0
     ·exact key (by unfold gB bF;simp[hm0]) (PQ w o a n ca f b m cb g ha hb o1 o2 hp hq hn0 hm0)
     ·exact PU w o a n ca f b m cb g ha hb o1 o2 hp hq (by omega) (by omega)
 ·exact key (by unfold gB bF;simp[ho]) (PT w o a n ca f b m cb g ha hb (by omega))
theorem nB {o:Int} {n:Nat} {f:Nat→T} (h:bF o n f=true):(1≤o∧o≤3)∧aN n f=true∧0<n:=by unfold bF at h;simp only[Bool.and_eq_true,decide_eq_true_eq]at h;exact⟨h.1.1,h.1.2,h.2⟩
theorem tE {o:Int} {n:Nat} {f:Nat→T} (h:bF o n f=true):(bQ o n f).m.ok=true∧1≤(bQ o n f).c∧(bQ o n f).c≤100:=by obtain⟨ho,hp,hn⟩:=nB h;rw[dP h];exact(fR hp).2 _ (tD hn)
theorem xH {o:Int} {n:Nat} {f:Nat→T} {m:Nat} {g:Nat→T} (h:gB o n f m g=true):((gL o n f m g).m.ok=true∧1≤(gL o n f m g).c∧(gL o n f m g).c≤100)∧((gM o n f m g).m.ok=true∧1≤(gM o n f m g).c∧(gM o n f m g).c≤100):=by
 have h':=h;unfold gB at h';rw[Bool.and_eq_true]at h';have ga:=tE h'.1
 have gb:=tE h'.2;obtain⟨d1,d2,_⟩:=vM ga.1 gb.1 (rfl:M.both (bQ o n f).m (bQ o m g).m=oH o n f m g);unfold gL gM;rw[if_pos h,if_pos h];exact⟨yU ga d1,yU gb d2⟩
theorem JZ (a b:Int):mx a b-a=0∨mx a b-b=0:=by unfold mx;split<;>omega
theorem VQ {o:Int} {n:Nat} {f:Nat→T} {m:Nat} {g:Nat→T} (h:gB o n f m g=true):M.mul (gL o n f m g).m (bQ o n f).m=(oH o n f m g,true)∧M.mul (gM o n f m g).m (bQ o m g).m=(oH o n f m g,true)∧rQ (gL o n f m g).c (bQ o n f).c=1∧rQ (gM o n f m g).c (bQ o m g).c=1∧((gL o n f m g).m.x=0∨(gM o n f m g).m.x=0)∧((gL o n f m g).m.y=0∨(gM o n f m g).m.y=0)∧((gL o n f m g).m.d=0∨(gM o n f m g).m.d=0)∧((gL o n f m g).m.e=0∨(gM o n f m g).m.e=0):=by
 have h':=h;unfold gB at h';rw[Bool.and_eq_true]at h';have ga:=tE h'.1
 have gb:=tE h'.2;obtain⟨d1,d2,_⟩:=vM ga.1 gb.1 (rfl:M.both (bQ o n f).m (bQ o m g).m=oH o n f m g);have d1:(bQ o n f).m.dvd (oH o n f m g)=true:=d1
 have d2:(bQ o m g).m.dvd (oH o n f m g)=true:=d2;unfold gL gM;rw[if_pos h,if_pos h];refine⟨EJ d1,EJ d2,wF ⟨by omega,ga.2.2⟩ (by omega),wF ⟨by omega,gb.2.2⟩ (by omega),?_⟩;have e1:(iQ (bQ o n f) (oH o n f m g)).m=(oH o n f m g).diff (bQ o n f).m:=by show(M.over _ _).1=_;rw[M.over,if_pos d1]
 have e2:(iQ (bQ o m g) (oH o n f m g)).m=(oH o n f m g).diff (bQ o m g).m:=by show(M.over _ _).1=_;rw[M.over,if_pos d2]
 rw[e1,e2];unfold oH;rw[M.both,if_pos ⟨ga.1,gb.1⟩];exact⟨JZ _ _,JZ _ _,JZ _ _,JZ _ _⟩
end Go.Proofs.YtdidlcjhodejjaaGreat
namespace Go.Proofs.YtdidlcjhodejjaaGreat
open Go.RowKit
set_option linter.unusedVariables false
theorem oV:cG []=true:=gE (by simp) eQ
def xK (L K:List T):List T×Bool:=lO (lf L) L.length (lf K) K.length
theorem VV (L K:List T):iM (lf L) L.length (zZ (lf K) K.length) K.length 0 0=cY L K:=by unfold cY dJ;rw[gA];rfl
theorem LE {L K:List T} (hL:cG L=true) (hK:cG K=true) (h:(cY L K).length≤400):xK L K=(cY L K,true):=by unfold xK lO;rw[VV];exact if_pos ⟨hL,hK,h⟩
theorem yX (L K:List T):xK L K=([],false)∨(cG L=true∧cG K=true∧(cY L K).length≤400∧xK L K=(cY L K,true)):=by
 by_cases h:cG L=true∧cG K=true∧(cY L K).length≤400
 ·exact .inr ⟨h.1,h.2.1,h.2.2,LE h.1 h.2.1 h.2.2⟩
 ·refine .inl ?_;unfold xK lO;rw[VV];exact if_neg h
end Go.Proofs.YtdidlcjhodejjaaGreat
namespace Go.Proofs.YtdidlcjhodejjaaGreat
set_option linter.unusedVariables false
namespace Lq
theorem mul_nil (A:Lq):mul A nil=nil:=rfl
end Lq
open Go.RowKit
set_option linter.unusedVariables false
theorem qP (g:xR):Rp g []=Lq.nil:=rfl
theorem AZ (g:xR) (t:T):Rp g [t]=Lq.sc (zz t.c) (mo g t.m):=Lq.ext fun u n k=>by
 show zz t.c*_+0=zz t.c*_
 grind
def Ac (w:World) (X:List T×Bool) (e:Ending) (w':World):Prop:=∃a' c',e= .returned (.tuple #[.slice a' X.1.length c',.bool X.2])∧Below w.heap.size w w'∧RL w' a' c' X.1
def Pi (w:World) (X:List T) (e:Ending) (w':World):Prop:=∃a' c',e= .returned (.slice a' X.length c')∧Below w.heap.size w w'∧RL w' a' c' X
theorem QC {w:World} {X:List T×Bool} {e:Ending} {w':World} (hl:X.1.length≤400) (h:∃v,e= .returned (.tuple #[v,.bool X.2])∧Below w.heap.size w w'∧w'.ownsRow w.heap.size 42 5 v X.1.length (aE X.1)):Ac w X e w':=by obtain⟨v,h1,h2,h3⟩:=h;obtain⟨a',c',rfl,h4⟩:=aH h3 (by omega);exact⟨a',c',h1,h2,h4.1⟩
theorem Dy {w:World} {X:List T} {e:Ending} {w':World} (hl:X.length≤400) (h:∃v,e= .returned v∧Below w.heap.size w w'∧w'.ownsRow w.heap.size 42 5 v X.length (aE X)):Pi w X e w':=by obtain⟨v,h1,h2,h3⟩:=h;obtain⟨a',c',rfl,h4⟩:=aH h3 (by omega);exact⟨a',c',h1,h2,h4.1⟩
variable {w:World} {a b:Option Addr} {ca cb:Nat} {L K:List T}
end Go.Proofs.YtdidlcjhodejjaaGreat
namespace Go.Proofs.YtdidlcjhodejjaaGreat
open Go.RowKit
set_option linter.unusedVariables false
def Rn (g:xR) (f:Nat→T) (n:Nat):Lq:=Lq.sumN (fun i=>Lq.sc (zz (f i).c) (mo g (f i).m)) n
theorem AH (g:xR) (L:List T):Rp g L=Rn g (lf L) L.length:=by
 refine Lq.ext fun u p q=>?_;unfold Rn;rw[LG];show su L _=_
 have e:L=(List.range L.length).map (lf L):=by refine List.ext_getElem (by simp) (fun i h1 h2=>?_);rw[List.getElem_map,List.getElem_range,jA h1]
 have key:∀(f:T→Fq),su L f=su (List.range L.length) (fun i=>f (lf L i)):=fun f=>by have:=yW (lf L) f (List.range L.length);rw[←e]at this;exact this
 rw[key];rfl
theorem VI (g:xR) {K:List T} {a:T} {f:Nat→T} {lb:Nat} (hK:aK K) (ha:a.m.ok=true∧0≤a.c∧a.c≤100) (hg:qL f lb):∀k K',k≤lb→gT K a f k=some K'→Rp g K'=Lq.sum (Rp g K) (Lq.mul (Lq.sc (zz a.c) (mo g a.m)) (Rn g f k))
 |0,K',_,h=>by cases h;unfold Rn;rw[Lq.sumN,Lq.mul_nil,Lq.sum_nil]
 |k+1,K',hk,h=>by
  rw[gT]at h;cases hr:gT K a f k with
  |none=>rw[hr]at h;cases h
  |some K1=>
   rw[hr]at h;change iG K1 a (f k)=some K' at h;have h1:=VI g hK ha hg k K1 (by omega) hr
   have hf1:=mL hK ha hg k K1 (by omega) hr;unfold iG at h;split at h
   ·rename_i hok;cases h;have h2:=hg k (by omega)
    have tw:uN a (f k) (a.m.sum (f k).m):=⟨ha.1,h2.1,hok.1,rfl,rfl,rfl,rfl,ha.2,h2.2⟩
    rw[xW g hf1 (iB tw).1,h1,IV g tw];unfold Rn;rw[Lq.sumN,Lq.mul_sum,Lq.sum_assoc,Lq.mul_sc,Lq.sc_mul,Lq.sc_mul,Lq.sc_sc,show zz (f k).c*zz a.c=zz a.c*zz (f k).c by grind]
   ·cases h
theorem UP (g:xR) {f f':Nat→T} {la lb:Nat} (hf:qL f la) (hg:qL f' lb):∀i K,i≤la→cT f f' lb i=some K→Rp g K=Lq.mul (Rn g f i) (Rn g f' lb)
 |0,K,_,h=>by cases h;unfold Rn;rw[Lq.sumN,Lq.nil_mul];rfl
 |i+1,K,hi,h=>by
  rw[cT]at h;cases hr:cT f f' lb i with
  |none=>rw[hr]at h;cases h
  |some K1=>
   rw[hr]at h;have h1:=UP g hf hg i K1 (by omega) hr
   rw[VI g (dQ hf hg i K1 (by omega) hr) (hf i (by omega)) hg lb K (Nat.le_refl _) h,h1];unfold Rn;rw[Lq.sumN.eq_2,Lq.sum_mul]
theorem xX (g:xR) {A B P:List T} (h:nU A B=(P,true)):Rp g P=Lq.mul (Rp g A) (Rp g B):=by
 unfold nU bV at h;split at h
 ·rename_i hok;obtain⟨l1,g1⟩:=cF hok.1;obtain⟨l2,g2⟩:=cF hok.2;cases hm:cT (lf A) (lf B) B.length A.length with
  |none=>rw[hm]at h;simp[lC]at h
  |some K=>
   rw[hm]at h;have:K=P:=by simpa[lC]using h
   rw[←this,AH,AH g B];rw[AH];rw[←AH g K];exact UP g g1 g2 _ K (Nat.le_refl _) hm
 ·simp at h
theorem Gn (A B:List T):nU A B=([],false)∨∃P,nU A B=(P,true):=(ER A B).imp id (fun⟨P,h,_⟩=>⟨P,h⟩)
theorem VW (A B:Lq) (u:Vq) (n k:Nat):(Lq.sum A B).f u n k=A.f u n k+B.f u n k:=rfl
theorem Kf (c:Fq) (A:Lq) (u:Vq) (n k:Nat):(Lq.sc c A).f u n k=c*A.f u n k:=rfl
open Go.RowKit Go.Deep Go.Joins
def mE (u v:T) (f:Nat→T) (n:Nat) (g:Nat→T) (m:Nat):List T×Bool:=
 if(bV (lf [u]) 1 f n).2=true∧(bV (lf [v]) 1 g m).2=true then lO (lf (bV (lf [u]) 1 f n).1) (bV (lf [u]) 1 f n).1.length (lf (bV (lf [v]) 1 g m).1) (bV (lf [v]) 1 g m).1.length else([],false)
theorem XB (u v:T) (f:Nat→T) (n:Nat) (g:Nat→T) (m:Nat):(mE u v f n g m).1.length≤400:=by
 unfold mE;split
 ·exact DH _ _ _ _
 ·simp
def dV (o:Int) (f:Nat→T) (n:Nat) (g:Nat→T) (m:Nat):List T×Bool:=
 if gB o n f m g=true then mE (gL o n f m g) (gM o n f m g) f n g m else([],false)
theorem PN (o:Int) (f:Nat→T) (n:Nat) (g:Nat→T) (m:Nat):(dV o f n g m).1.length≤400:=by
 unfold dV;split
 ·exact XB _ _ _ _ _ _
 ·simp
theorem YB {u v:T} {f:Nat→T} {n:Nat} {g:Nat→T} {m:Nat} (hu:u.m.ok=true∧1≤u.c∧u.c≤100) (hv:v.m.ok=true∧1≤v.c∧v.c≤100) (hf:aN n f=true) (hg:aN m g=true):mE u v f n g m=match cT (lf [u]) f n 1 with|none=>([],false)|some X=>pX X v g m:=by
 have o1:aN 1 (lf [u])=true:=jE hu;have o2:aN 1 (lf [v])=true:=jE hv
 have e1:bV (lf [u]) 1 f n=lC (cT (lf [u]) f n 1):=if_pos ⟨o1,hf⟩;have e2:bV (lf [v]) 1 g m=lC (cT (lf [v]) g m 1):=if_pos ⟨o2,hg⟩
 unfold mE;rw[e1,e2];cases hX:cT (lf [u]) f n 1 with
 |none=>exact if_neg (by simp[lC])
 |some X=>
  unfold pX;cases hY:cT (lf [v]) g m 1 with
  |none=>exact if_neg (by simp[lC])
  |some Y=>
   have kX:cG X=true:=gE (gQ _ X hX) (dQ (cF o1).2 (cF hf).2 _ X (Nat.le_refl _) hX);have kY:cG Y=true:=gE (gQ _ Y hY) (dQ (cF o2).2 (cF hg).2 _ Y (Nat.le_refl _) hY)
   rw[if_pos (by simp[lC])];show xK X Y=if(cY X Y).length≤400 then(cY X Y,true)else([],false)
   by_cases hl:(cY X Y).length≤400
   ·rw[if_pos hl,LE kX kY hl]
   ·rw[if_neg hl];rcases yX X Y with h|⟨_,_,h,_⟩
    ·exact h
    ·exact absurd h hl
end Go.Proofs.YtdidlcjhodejjaaGreat
namespace Go.Proofs.YtdidlcjhodejjaaGreat
open Go.RowKit
set_option linter.unusedVariables false
theorem Gp {B P:List T} (h:nU [] B=(P,true)):P=[]:=by have h1:=xX LA h;rw[qP,Lq.nil_mul]at h1;exact yO (oM h) h1
theorem Gq {A P:List T} (h:nU A []=(P,true)):P=[]:=by have h1:=xX LA h;rw[qP,Lq.mul_nil]at h1;exact yO (oM h) h1
theorem Cu (o:Int):EZ o []=false:=by
 cases h:EZ o []
 ·rfl
 ·exact absurd rfl (fT.1 h).2.2
theorem Iu {o:Int} (ho:1≤o∧o≤3) {A B P:List T} (h:nU A B=(P,true)):EZ o P=(EZ o A&&EZ o B)∧(EZ o A=true→EZ o B=true→M.mul ⟨(uV o A).m.x,(uV o A).m.y,(uV o A).m.d,(uV o A).m.e⟩ ⟨(uV o B).m.x,(uV o B).m.y,(uV o B).m.d,(uV o B).m.e⟩=((uV o P).m,true)∧rQ (uV o A).c (uV o B).c=(uV o P).c):=by
 obtain⟨oA,oB⟩:=LK h;cases hA:EZ o A
 ·have eA:A=[]:=by
   by_cases e:A=[]
   ·exact e
   ·rw[fT.2 ⟨ho,oA,e⟩]at hA;cases hA
  subst eA;rw[Gp h,Cu];exact⟨rfl,fun q=>by cases q⟩
 ·cases hB:EZ o B
  ·have eB:B=[]:=by
    by_cases e:B=[]
    ·exact e
    ·rw[fT.2 ⟨ho,oB,e⟩]at hB;cases hB
   subst eB;rw[Gq h,Cu];exact⟨rfl,fun _ q=>by cases q⟩
  ·obtain⟨a1,a2⟩:=yI hA;obtain⟨b1,b2⟩:=yI hB;have hp:=GJ (DP o) lW h a1 b1 a2 b2
   have hne:P≠[]:=fun e=>by rw[e]at hp;cases hp.1
   have hP:EZ o P=true:=fT.2 ⟨ho,zV h,hne⟩;refine⟨hP,fun _ _=>?_⟩;obtain⟨p1,p2⟩:=yI hP;have fP:=oM h
   have r1:=fP.2 _ p1;have hs:=(LM h).2 _ a1 _ b1
   have l1:=hp.2 _ p1;have l2:=p2 _ hp.1
   dsimp only at l2;have em:(uV o P).m=(uV o A).m.sum (uV o B).m:=by refine lW (o:=o) _ _ r1.1 hs ?_;exact Int.le_antisymm l1 l2
   have ra:=(aD oA).2.2 _ a1;have rb:=(aD oB).2.2 _ b1
   have ec:(uV o P).c=(uV o A).c*(uV o B).c%101:=by
    have h1:∀X:List T,aK X→∀t∈X,∀s∈X,t.m=s.m→t=s:=fun X hX=>by
     induction X with
     |nil=>intro t ht;cases ht
     |cons z r ih=>
      intro t ht s hs e;have hp:=(List.pairwise_cons.1 hX.1).1
      rcases List.mem_cons.1 ht with rfl|ht'
      ·rcases List.mem_cons.1 hs with rfl|hs'
       ·rfl
       ·have:=hp s hs';rw[e]at this;omega
      ·rcases List.mem_cons.1 hs with rfl|hs'
       ·have:=hp t ht';rw[e]at this;omega
       ·exact ih hX.tail t ht' s hs' e
    rw[h1 P fP _ p1 _ hp.1 em]
   refine⟨?_,?_⟩
   ·rw[em];have e3:∀m:M,(⟨m.x,m.y,m.d,m.e⟩:M)=m:=fun m=>by cases m;rfl
    rw[e3,e3];unfold M.mul;simp[ra.1,rb.1,hs]
   ·rw[ec,jW (by omega) ra.2.2 (by omega) rb.2.2]
open Go.RowKit Go.Deep Go.Joins
theorem QA (F:Nat→Lq) (X:Lq) (k:Nat):∀n,k<n→Lq.sumN (fun i=>if i=k then Lq.sum (F i) X else F i) n=Lq.sum (Lq.sumN F n) X
 |0,h=>by omega
 |n+1,h=>by
  rw[Lq.sumN,Lq.sumN];by_cases e:k=n
  ·subst e;rw[if_pos rfl,Lq.sumN_congr (g:=F) (fun i hi=>if_neg (by omega)),Lq.sum_assoc]
  ·rw[QA F X k n (by omega),if_neg (fun h=>e h.symm),Lq.sum_assoc,Lq.sum_assoc,Lq.sum_comm X]
def qsum (g:xR) (n:Nat) (L:Nat→List T) (q:Nat→List T):Lq:=Lq.sumN (fun i=>Lq.mul (Rp g (q i)) (Rp g (L i))) n
theorem yY:∀n,Lq.sumN (fun _=>Lq.nil) n=Lq.nil
 |0=>rfl
 |n+1=>by rw[Lq.sumN,yY n,Lq.sum_nil]
theorem OQ (g:xR) (n:Nat) (L:Nat→List T):qsum g n L (fun _=>[])=Lq.nil:=by unfold qsum;rw[Lq.sumN_congr (g:=fun _=>Lq.nil) (fun i _=>by rw[qP,Lq.nil_mul]),yY]
theorem Ey (g:xR) {n:Nat} {L q:Nat→List T} {k:Nat} {t:T} (hk:k<n) (hq:aK (q k)) (ht:cG [t]=true):qsum g n L (oK q k (dJ (q k) [t]))=Lq.sum (qsum g n L q) (Lq.mul (Rp g [t]) (Rp g (L k))):=by
 unfold qsum;rw[←QA _ _ k n hk];refine Lq.sumN_congr (fun i _=>?_);unfold oK;split
 ·rename_i e;subst e;rw[xW g hq (aD ht).2,Lq.sum_mul]
 ·rfl
theorem vE (g:xR) {o:Int} {p:List T} {n:Nat} {L:Nat→List T} {S:Dv} (h:aW o p n (lN L) (fN L)=some S):Lq.sum (qsum g n L S.q) (Rp g S.r)=Rp g p:=by
 obtain⟨_,h2,h3,h4⟩:=jI h
 have key:=nD h (fun S=>Lq.sum (qsum g n L S.q) (Lq.sum (Rp g S.r) (Rp g S.p))=Rp g p) (by
  show Lq.sum (qsum g n L (fun _=>[])) (Lq.sum (Rp g []) (Rp g p))=_;rw[OQ,qP]
  exact Lq.ext fun u i j=>by show(0:Fq)+(0+_)=_;grind) (fun u S S' hok h0 hI hs=>by
  rw[←hI];rcases kS h3 hok.p h0 hs with⟨k,Y,hk,_,ho,hY,_,rfl⟩|⟨_,rfl⟩
  ·show Lq.sum (qsum g n L (oK S.q k _)) (Lq.sum (Rp g S.r) (Rp g (cY S.p Y)))=_;rw[Ey g hk (hok.q k).1 ho,BC g (aD hok.p).2 (oM hY),xX g hY];exact Lq.ext fun u i j=>by
    show _+_+(_+(_+zz 100*_))=_+(_+_)
    have e:zz 100=100:=rfl;rw[e]
    grind
  ·show Lq.sum (qsum g n L S.q) (Lq.sum (Rp g (dJ S.r [aV o S.p])) (Rp g (cY S.p [aV o S.p])))=_;have f1:=dH (dU (o:=o) (aD hok.p).2 h0)
   rw[xW g hok.r.1 f1,BC g (aD hok.p).2 f1];exact Lq.ext fun u i j=>by
    show _+(_+_+(_+zz 100*_))=_+(_+_)
    have e:zz 100=100:=rfl;rw[e]
    grind)
 have hp:=(dG h).2;rw[hp,qP,Lq.sum_nil]at key;exact key
end Go.Proofs.YtdidlcjhodejjaaGreat
