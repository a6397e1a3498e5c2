/-
  The least monomial that two divide: the model's and the program's function.
-/
import Derived.Test.YtelkehjdfcoeiaaGreatNaq
set_option maxHeartbeats 4000000
set_option maxRecDepth 100000
namespace Go.Proofs.YtelkehjdfcoeiaaGreat
open Go.RowKit
set_option linter.unusedVariables false
def S8 (u:World) (n:Nat) (x0 y0 z0 u0 x1 y1 z1 u1:Int):Prop:=u.cell? ⟨n,0,none⟩=some (.int .i64 x0)∧u.cell? ⟨n,1,none⟩=some (.int .i64 y0)∧u.cell? ⟨n,2,none⟩=some (.int .i64 z0)∧u.cell? ⟨n,3,none⟩=some (.int .i64 u0)∧u.cell? ⟨n+1,0,none⟩=some (.int .i64 x1)∧u.cell? ⟨n+1,1,none⟩=some (.int .i64 y1)∧u.cell? ⟨n+1,2,none⟩=some (.int .i64 z1)∧u.cell? ⟨n+1,3,none⟩=some (.int .i64 u1)
theorem S8.mk {u:World} {n:Nat} {x0 y0 z0 u0 x1 y1 z1 u1:Int} (ha:M4 u n x0 y0 z0 u0) (hb:M4 u (n+1) x1 y1 z1 u1):S8 u n x0 y0 z0 u0 x1 y1 z1 u1:=
 ⟨ha.1,ha.2.1,ha.2.2.1,ha.2.2.2,hb.1,hb.2.1,hb.2.2.1,hb.2.2.2⟩
theorem S8.a {u:World} {n:Nat} {x0 y0 z0 u0 x1 y1 z1 u1:Int} (h:S8 u n x0 y0 z0 u0 x1 y1 z1 u1):M4 u n x0 y0 z0 u0:=⟨h.1,h.2.1,h.2.2.1,h.2.2.2.1⟩
theorem S8.b {u:World} {n:Nat} {x0 y0 z0 u0 x1 y1 z1 u1:Int} (h:S8 u n x0 y0 z0 u0 x1 y1 z1 u1):M4 u (n+1) x1 y1 z1 u1:=⟨h.2.2.2.2.1,h.2.2.2.2.2.1,h.2.2.2.2.2.2.1,h.2.2.2.2.2.2.2⟩
theorem VG {u:World} {n:Nat} {x0 y0 z0 u0 x1 y1 z1 u1:Int} (h:S8 u n x0 y0 z0 u0 x1 y1 z1 u1):S8 u.drew n x0 y0 z0 u0 x1 y1 z1 u1:=.mk h.a.drew' h.b.drew'
theorem OX {u:World} {B b:Nat} {v0 v1 v2 v3:Value} {x y d e:Int} (m:M4 u b x y d e) (h:b≠B):M4 ((((u.setCell ⟨B,0,none⟩ v0).setCell ⟨B,1,none⟩ v1).setCell ⟨B,2,none⟩ v2).setCell ⟨B,3,none⟩ v3) b x y d e:=
 ⟨(TR h).trans m.1,(TR h).trans m.2.1,(TR h).trans m.2.2.1,(TR h).trans m.2.2.2⟩
theorem YM {u:World} {n B:Nat} {v0 v1 v2 v3:Value} {x0 y0 z0 u0 x1 y1 z1 u1:Int} (h:S8 u n x0 y0 z0 u0 x1 y1 z1 u1) (hB:n+1<B):S8 ((((u.setCell ⟨B,0,none⟩ v0).setCell ⟨B,1,none⟩ v1).setCell ⟨B,2,none⟩ v2).setCell ⟨B,3,none⟩ v3) n x0 y0 z0 u0 x1 y1 z1 u1:=
 .mk (OX h.a (by omega)) (OX h.b (by omega))
theorem PG (x y d e x' y' d' e':Int) (w:World):Calls Tryz.prog 112 #[.agg #[.int .i64 x,.int .i64 y,.int .i64 d,.int .i64 e],.agg #[.int .i64 x',.int .i64 y',.int .i64 d',.int .i64 e']] w fun r w'=>r= .returned (.agg #[.int .i64 (M.both ⟨x,y,d,e⟩ ⟨x',y',d',e'⟩).x,.int .i64 (M.both ⟨x,y,d,e⟩ ⟨x',y',d',e'⟩).y,.int .i64 (M.both ⟨x,y,d,e⟩ ⟨x',y',d',e'⟩).d,.int .i64 (M.both ⟨x,y,d,e⟩ ⟨x',y',d',e'⟩).e])∧Below w.heap.size w w':=by
 cases ha:M.ok ⟨x,y,d,e⟩
 ·have r1:M.both ⟨x,y,d,e⟩ ⟨x',y',d',e'⟩=M.zero:=by simp[M.both,ha]
  rw[r1];simp only[M.zero];clear r1;go_enter Tryz.func112,Tryz.ntmps112;go_wp2_with fail;refine(bB ha _).mono ?_;rintro r w1 ⟨rfl,hb1⟩;obtain⟨hc1,hf1⟩:=aL hb1;have hz1:w.heap.size+1+1<w1.heap.size:=by have:=hb1.size;simp at this;omega
  go_wp2;refine cV (v:=.agg #[.int .i64 0,.int .i64 0,.int .i64 0,.int .i64 0]) (by simp[results,Tryz.results112,go_sem, *]) rfl ⟨rfl,?_⟩;exact cW (aB (aP w _ _ _) hb1) (by omega) _ _ _ _
 ·cases hb:M.ok ⟨x',y',d',e'⟩
  ·have r1:M.both ⟨x,y,d,e⟩ ⟨x',y',d',e'⟩=M.zero:=by simp[M.both,hb]
   rw[r1];simp only[M.zero];clear r1;go_enter Tryz.func112,Tryz.ntmps112;go_wp2_with fail;refine(bB ha _).mono ?_;rintro r w1 ⟨rfl,hb1⟩;obtain⟨hc1,hf1⟩:=aL hb1;have hz1:w.heap.size+1+1<w1.heap.size:=by have:=hb1.size;simp at this;omega
   go_wp2_with fail;refine(bB hb _).mono ?_;rintro r w2 ⟨rfl,hb2⟩;obtain⟨hc2,hf2⟩:=aL hb2;have hz2:w.heap.size+1+1<w2.heap.size:=by have:=hb2.size;omega
   go_wp2;refine cV (v:=.agg #[.int .i64 0,.int .i64 0,.int .i64 0,.int .i64 0]) (by simp[results,Tryz.results112,go_sem, *]) rfl ⟨rfl,?_⟩;exact cW (aB (aB (aP w _ _ _) hb1) hb2) (by omega) _ _ _ _
  ·have r1:M.both ⟨x,y,d,e⟩ ⟨x',y',d',e'⟩=⟨mx x x',mx y y',mx d d',mx e e'⟩:=by simp[M.both,ha,hb]
   rw[r1];clear r1;go_enter Tryz.func112,Tryz.ntmps112;go_wp2_with fail;refine(bB ha _).mono ?_;rintro r w1 ⟨rfl,hb1⟩;obtain⟨hc1,hf1⟩:=aL hb1;have hz1:w.heap.size+1+1<w1.heap.size:=by have:=hb1.size;simp at this;omega
   have hz0:w.heap.size+1<w1.heap.size:=by omega
   have hzz:w.heap.size<w1.heap.size:=by omega
   go_wp2_with fail;refine(bB hb _).mono ?_;rintro r w2 ⟨rfl,hb2⟩;obtain⟨hc2,hf2⟩:=aL hb2;have hz2:w.heap.size+1+1<w2.heap.size:=by have:=hb2.size;omega
   have q0:w2.cell? ⟨w.heap.size,0,none⟩=some (.int .i64 x):=by go_simp
   have q1:w2.cell? ⟨w.heap.size,1,none⟩=some (.int .i64 y):=by go_simp
   have q2:w2.cell? ⟨w.heap.size,2,none⟩=some (.int .i64 d):=by go_simp
   have q3:w2.cell? ⟨w.heap.size,3,none⟩=some (.int .i64 e):=by go_simp
   have p0:w2.cell? ⟨w.heap.size+1,0,none⟩=some (.int .i64 x'):=by go_simp
   have p1:w2.cell? ⟨w.heap.size+1,1,none⟩=some (.int .i64 y'):=by go_simp
   have p2:w2.cell? ⟨w.heap.size+1,2,none⟩=some (.int .i64 d'):=by go_simp
   have p3:w2.cell? ⟨w.heap.size+1,3,none⟩=some (.int .i64 e'):=by go_simp
   have t0:w2.cell? ⟨w.heap.size+1+1,0,none⟩=some (.int .i64 0):=by go_simp
   have t1:w2.cell? ⟨w.heap.size+1+1,1,none⟩=some (.int .i64 0):=by go_simp
   have t2:w2.cell? ⟨w.heap.size+1+1,2,none⟩=some (.int .i64 0):=by go_simp
   have t3:w2.cell? ⟨w.heap.size+1+1,3,none⟩=some (.int .i64 0):=by go_simp
   have z0:∀i,w2.frozen? ⟨w.heap.size+1+1,i,none⟩=false:=fun i=>by go_simp
   have HB:=aA (aB (aB (aP w _ _ _) hb1) hb2);clear hc1 hf1 hc2 hf2 hb1 hb2;go_wp2_with fail;have hS0:S8 w2 w.heap.size x y d e x' y' d' e':=⟨q0,q1,q2,q3,p0,p1,p2,p3⟩
   go_region_held3 (fun u=>u.cell? ⟨w.heap.size,0,none⟩=some (.int .i64 x)∧u.cell? ⟨w.heap.size,1,none⟩=some (.int .i64 y)∧u.cell? ⟨w.heap.size,2,none⟩=some (.int .i64 d)∧u.cell? ⟨w.heap.size,3,none⟩=some (.int .i64 e)∧u.cell? ⟨w.heap.size+1,0,none⟩=some (.int .i64 x')∧u.cell? ⟨w.heap.size+1,1,none⟩=some (.int .i64 y')∧u.cell? ⟨w.heap.size+1,2,none⟩=some (.int .i64 d')∧u.cell? ⟨w.heap.size+1,3,none⟩=some (.int .i64 e')) (first|exact VG hS0|exact YM (by assumption) (by omega)) (first|(go_at_call 156;refine(Cs _ _ _).mono ?_;rintro r w7 ⟨rfl,hw7⟩;obtain rfl:=hw7.symm;clear hw7))
   go_wp2;refine cV (v:=.agg #[.int .i64 (mx x x'),.int .i64 (mx y y'),.int .i64 (mx d d'),.int .i64 (mx e e')]) (by simp[results,Tryz.results112,go_sem, *]) rfl ⟨rfl,?_⟩;exact cW HB.out.drew (by omega) _ _ _ _
theorem PF (x y d e x' y' d' e':Int) (w:World):Calls Tryz.prog 170 #[.agg #[.int .i64 x,.int .i64 y,.int .i64 d,.int .i64 e],.agg #[.int .i64 x',.int .i64 y',.int .i64 d',.int .i64 e']] w fun r w'=>r= .returned (.agg #[.int .i64 (M.both ⟨x,y,d,e⟩ ⟨x',y',d',e'⟩).x,.int .i64 (M.both ⟨x,y,d,e⟩ ⟨x',y',d',e'⟩).y,.int .i64 (M.both ⟨x,y,d,e⟩ ⟨x',y',d',e'⟩).d,.int .i64 (M.both ⟨x,y,d,e⟩ ⟨x',y',d',e'⟩).e])∧Below w.heap.size w w':=by
 cases ha:M.ok ⟨x,y,d,e⟩
 ·have r1:M.both ⟨x,y,d,e⟩ ⟨x',y',d',e'⟩=M.zero:=by simp[M.both,ha]
  rw[r1];simp only[M.zero];clear r1;go_enter Tryz.func170,Tryz.ntmps170;go_wp2_with fail;refine(bT ha _).mono ?_;rintro r w1 ⟨rfl,hb1⟩;obtain⟨hc1,hf1⟩:=aL hb1;have hz1:w.heap.size+1+1<w1.heap.size:=by have:=hb1.size;simp at this;omega
  go_wp2;refine cV (v:=.agg #[.int .i64 0,.int .i64 0,.int .i64 0,.int .i64 0]) (by simp[results,Tryz.results170,go_sem, *]) rfl ⟨rfl,?_⟩;exact cW (aB (aP w _ _ _) hb1) (by omega) _ _ _ _
 ·cases hb:M.ok ⟨x',y',d',e'⟩
  ·have r1:M.both ⟨x,y,d,e⟩ ⟨x',y',d',e'⟩=M.zero:=by simp[M.both,hb]
   rw[r1];simp only[M.zero];clear r1;go_enter Tryz.func170,Tryz.ntmps170;go_wp2_with fail;refine(bT ha _).mono ?_;rintro r w1 ⟨rfl,hb1⟩;obtain⟨hc1,hf1⟩:=aL hb1;have hz1:w.heap.size+1+1<w1.heap.size:=by have:=hb1.size;simp at this;omega
   go_wp2_with fail;refine(bT hb _).mono ?_;rintro r w2 ⟨rfl,hb2⟩;obtain⟨hc2,hf2⟩:=aL hb2;have hz2:w.heap.size+1+1<w2.heap.size:=by have:=hb2.size;omega
   go_wp2;refine cV (v:=.agg #[.int .i64 0,.int .i64 0,.int .i64 0,.int .i64 0]) (by simp[results,Tryz.results170,go_sem, *]) rfl ⟨rfl,?_⟩;exact cW (aB (aB (aP w _ _ _) hb1) hb2) (by omega) _ _ _ _
  ·have r1:M.both ⟨x,y,d,e⟩ ⟨x',y',d',e'⟩=⟨mx x x',mx y y',mx d d',mx e e'⟩:=by simp[M.both,ha,hb]
   rw[r1];clear r1;go_enter Tryz.func170,Tryz.ntmps170;go_wp2_with fail;refine(bT ha _).mono ?_;rintro r w1 ⟨rfl,hb1⟩;obtain⟨hc1,hf1⟩:=aL hb1;have hz1:w.heap.size+1+1<w1.heap.size:=by have:=hb1.size;simp at this;omega
   have hz0:w.heap.size+1<w1.heap.size:=by omega
   have hzz:w.heap.size<w1.heap.size:=by omega
   go_wp2_with fail;refine(bT hb _).mono ?_;rintro r w2 ⟨rfl,hb2⟩;obtain⟨hc2,hf2⟩:=aL hb2;have hz2:w.heap.size+1+1<w2.heap.size:=by have:=hb2.size;omega
   have q0:w2.cell? ⟨w.heap.size,0,none⟩=some (.int .i64 x):=by go_simp
   have q1:w2.cell? ⟨w.heap.size,1,none⟩=some (.int .i64 y):=by go_simp
   have q2:w2.cell? ⟨w.heap.size,2,none⟩=some (.int .i64 d):=by go_simp
   have q3:w2.cell? ⟨w.heap.size,3,none⟩=some (.int .i64 e):=by go_simp
   have p0:w2.cell? ⟨w.heap.size+1,0,none⟩=some (.int .i64 x'):=by go_simp
   have p1:w2.cell? ⟨w.heap.size+1,1,none⟩=some (.int .i64 y'):=by go_simp
   have p2:w2.cell? ⟨w.heap.size+1,2,none⟩=some (.int .i64 d'):=by go_simp
   have p3:w2.cell? ⟨w.heap.size+1,3,none⟩=some (.int .i64 e'):=by go_simp
   have t0:w2.cell? ⟨w.heap.size+1+1,0,none⟩=some (.int .i64 0):=by go_simp
   have t1:w2.cell? ⟨w.heap.size+1+1,1,none⟩=some (.int .i64 0):=by go_simp
   have t2:w2.cell? ⟨w.heap.size+1+1,2,none⟩=some (.int .i64 0):=by go_simp
   have t3:w2.cell? ⟨w.heap.size+1+1,3,none⟩=some (.int .i64 0):=by go_simp
   have z0:∀i,w2.frozen? ⟨w.heap.size+1+1,i,none⟩=false:=fun i=>by go_simp
   have HB:=aA (aB (aB (aP w _ _ _) hb1) hb2);clear hc1 hf1 hc2 hf2 hb1 hb2;go_wp2
   all_goals
    refine cV (v:=.agg #[.int .i64 (mx x x'),.int .i64 (mx y y'),.int .i64 (mx d d'),.int .i64 (mx e e')]) (by simp[results,Tryz.results170,go_sem, *];(repeat' apply And.intro)<;>(unfold mx;split<;>omega)) rfl ⟨rfl,?_⟩;exact cW HB.out (by omega) _ _ _ _
theorem M4.ext {w:World} {b:Nat} {x y d e:Int} (h:M4 w b x y d e):(∀u:bR w,u.1.cell? ⟨b,0,none⟩=some (.int .i64 x))∧(∀u:bR w,u.1.cell? ⟨b,1,none⟩=some (.int .i64 y))∧(∀u:bR w,u.1.cell? ⟨b,2,none⟩=some (.int .i64 d))∧(∀u:bR w,u.1.cell? ⟨b,3,none⟩=some (.int .i64 e)):=
 ⟨fun u=>(u.cell h.lt).trans h.1,fun u=>(u.cell h.lt).trans h.2.1,fun u=>(u.cell h.lt).trans h.2.2.1,fun u=>(u.cell h.lt).trans h.2.2.2⟩
theorem tZ {x y d e x' y' d' e':Int} {m:M} {b:Bool} (h:M.over ⟨x,y,d,e⟩ ⟨x',y',d',e'⟩=(m,b)) (w:World):Calls Tryz.prog 168 #[.agg #[.int .i64 x,.int .i64 y,.int .i64 d,.int .i64 e],.agg #[.int .i64 x',.int .i64 y',.int .i64 d',.int .i64 e']] w fun r w'=>r= .returned (.tuple #[.agg #[.int .i64 m.x,.int .i64 m.y,.int .i64 m.d,.int .i64 m.e],.bool b])∧Below w.heap.size w w':=by have:=PH x y d e x' y' d' e' w;rw[h]at this;exact this
theorem DF {x y d e x' y' d' e':Int} {m:M} {b:Bool} (h:M.over ⟨x,y,d,e⟩ ⟨x',y',d',e'⟩=(m,b)) (w:World):Calls Tryz.prog 157 #[.agg #[.int .i64 x,.int .i64 y,.int .i64 d,.int .i64 e],.agg #[.int .i64 x',.int .i64 y',.int .i64 d',.int .i64 e']] w fun r w'=>r= .returned (.tuple #[.agg #[.int .i64 m.x,.int .i64 m.y,.int .i64 m.d,.int .i64 m.e],.bool b])∧Below w.heap.size w w':=by have:=PI x y d e x' y' d' e' w;rw[h]at this;exact this
theorem DA {x y d e x' y' d' e':Int} {m:M} (h:M.both ⟨x,y,d,e⟩ ⟨x',y',d',e'⟩=m) (w:World):Calls Tryz.prog 170 #[.agg #[.int .i64 x,.int .i64 y,.int .i64 d,.int .i64 e],.agg #[.int .i64 x',.int .i64 y',.int .i64 d',.int .i64 e']] w fun r w'=>r= .returned (.agg #[.int .i64 m.x,.int .i64 m.y,.int .i64 m.d,.int .i64 m.e])∧Below w.heap.size w w':=by have:=PF x y d e x' y' d' e' w;rw[h]at this;exact this
theorem DB {x y d e x' y' d' e':Int} {m:M} (h:M.both ⟨x,y,d,e⟩ ⟨x',y',d',e'⟩=m) (w:World):Calls Tryz.prog 112 #[.agg #[.int .i64 x,.int .i64 y,.int .i64 d,.int .i64 e],.agg #[.int .i64 x',.int .i64 y',.int .i64 d',.int .i64 e']] w fun r w'=>r= .returned (.agg #[.int .i64 m.x,.int .i64 m.y,.int .i64 m.d,.int .i64 m.e])∧Below w.heap.size w w':=by have:=PG x y d e x' y' d' e' w;rw[h]at this;exact this
theorem uP {a b:M} (ha:a.ok=true) (hb:b.ok=true) (h:a.x≤b.x∧a.y≤b.y∧a.d≤b.d∧a.e≤b.e):a.dvd b=true:=by simp[M.dvd,ha,hb,h]
theorem IV {a b l h:Int} (ha:l≤a∧a≤h) (hb:l≤b∧b≤h):l≤mx a b∧mx a b≤h∧a≤mx a b∧b≤mx a b:=by unfold mx;split<;>omega
theorem IW {a b c:Int} (ha:a≤c) (hb:b≤c):mx a b≤c:=by unfold mx;split<;>omega
theorem qK {a b p:M} (ha:a.ok=true) (hb:b.ok=true) (hp:M.both a b=p):a.dvd p=true∧b.dvd p=true∧(∀c:M,a.dvd c=true→b.dvd c=true→p.dvd c=true)∧M.both a a=a:=by
 rw[M.both,if_pos ⟨ha,hb⟩]at hp;subst hp;have ka:=M.ok_iff.1 ha
 have kb:=M.ok_iff.1 hb;have hx:=IV (a:=a.x) (b:=b.x) (l:=0) (h:=15) (by omega) (by omega)
 have hy:=IV (a:=a.y) (b:=b.y) (l:=0) (h:=15) (by omega) (by omega);have hd:=IV (a:=a.d) (b:=b.d) (l:=0) (h:=15) (by omega) (by omega)
 have he:=IV (a:=a.e) (b:=b.e) (l:=0) (h:=15) (by omega) (by omega);have hok:M.ok ⟨mx a.x b.x,mx a.y b.y,mx a.d b.d,mx a.e b.e⟩=true:=M.ok_iff.2 (by dsimp only;omega)
 refine⟨uP ha hok (by dsimp only;omega),uP hb hok (by dsimp only;omega),fun c h1 h2=>?_,?_⟩
 ·have k1:=jP h1;have k2:=jP h2
  exact uP hok k1.2.1 ⟨IW k1.2.2.1 k2.2.2.1,IW k1.2.2.2.1 k2.2.2.2.1,IW k1.2.2.2.2.1 k2.2.2.2.2.1,IW k1.2.2.2.2.2 k2.2.2.2.2.2⟩
 ·rw[M.both,if_pos ⟨ha,ha⟩];have:∀z:Int,mx z z=z:=fun z=>by unfold mx;split<;>rfl
  simp only[this]
open Go.RowKit Go.Deep Go.Joins
abbrev L5 (b o B:Nat) (v:Value) (m:M) (u:World):Prop:=u.cell? ⟨b,o,none⟩=some v∧u.cell? ⟨B,0,none⟩=some (.int .i64 m.x)∧u.cell? ⟨B,1,none⟩=some (.int .i64 m.y)∧u.cell? ⟨B,2,none⟩=some (.int .i64 m.d)∧u.cell? ⟨B,3,none⟩=some (.int .i64 m.e)
theorem L5.below {b o B:Nat} {v:Value} {m:M} {u u':World} (h:L5 b o B v m u) (hb:Below u.heap.size u u'):L5 b o B v m u':=
 have l1:=cQ u ⟨b,o,none⟩ h.1;have l2:=cQ u ⟨B,0,none⟩ h.2.1
 ⟨(hb.cell (p:=⟨b,o,none⟩) l1).trans h.1,(hb.cell (p:=⟨B,0,none⟩) l2).trans h.2.1,(hb.cell (p:=⟨B,1,none⟩) l2).trans h.2.2.1,(hb.cell (p:=⟨B,2,none⟩) l2).trans h.2.2.2.1,(hb.cell (p:=⟨B,3,none⟩) l2).trans h.2.2.2.2⟩
def kS (o:Int) (ln:Nat→Nat) (f:Nat→Nat→T) (i:Nat):T:=f i (aT o (f i) (ln i))
def gG (l:T) (b:M):T:=⟨lI l.c,(M.over b l.m).1⟩
def eQ (o:Int) (n:Nat) (f:Nat→T) (m:Nat) (g:Nat→T):Bool:=aY o n f&&aY o m g
def kT (o:Int) (n:Nat) (f:Nat→T) (m:Nat) (g:Nat→T):M:=M.both (bF o n f).m (bF o m g).m
def eR (o:Int) (n:Nat) (f:Nat→T) (m:Nat) (g:Nat→T):T:=if eQ o n f m g=true then gG (bF o n f) (kT o n f m g)else aX
def eS (o:Int) (n:Nat) (f:Nat→T) (m:Nat) (g:Nat→T):T:=if eQ o n f m g=true then gG (bF o m g) (kT o n f m g)else aX
theorem TD {B:Nat} {a w:World} {O:Obj} (h:Below a.heap.size a w) (hB:a.heap.size≤B) (u0 u1 u2 u3 u4:Value):Below a.heap.size a ((((((w.setCell ⟨B,0,none⟩ u0).setCell ⟨B,1,none⟩ u1).setCell ⟨B,2,none⟩ u2).setCell ⟨B,3,none⟩ u3).setCell ⟨B,4,none⟩ u4).alloc O).drew:=
 have k:=bC h hB u0 u1 u2 u3 u4
 (k.alloc k.size O).drew
abbrev KA (A B C:Nat) (s t:T) (m:M) (u:World):Prop:=u.cell? ⟨A,0,none⟩=some (.int .i64 s.c)∧u.cell? ⟨A,1,none⟩=some (.int .i64 s.m.x)∧u.cell? ⟨A,2,none⟩=some (.int .i64 s.m.y)∧u.cell? ⟨A,3,none⟩=some (.int .i64 s.m.d)∧u.cell? ⟨A,4,none⟩=some (.int .i64 s.m.e)∧u.cell? ⟨B,0,none⟩=some (.int .i64 t.c)∧u.cell? ⟨B,1,none⟩=some (.int .i64 t.m.x)∧u.cell? ⟨B,2,none⟩=some (.int .i64 t.m.y)∧u.cell? ⟨B,3,none⟩=some (.int .i64 t.m.d)∧u.cell? ⟨B,4,none⟩=some (.int .i64 t.m.e)∧u.cell? ⟨C,0,none⟩=some (.int .i64 m.x)∧u.cell? ⟨C,1,none⟩=some (.int .i64 m.y)∧u.cell? ⟨C,2,none⟩=some (.int .i64 m.d)∧u.cell? ⟨C,3,none⟩=some (.int .i64 m.e)
theorem KA.below {A B C:Nat} {s t:T} {m:M} {u u':World} (h:KA A B C s t m u) (hb:Below u.heap.size u u'):KA A B C s t m u':=
 have l1:=cQ u ⟨A,0,none⟩ h.1;have l2:=cQ u ⟨B,0,none⟩ h.2.2.2.2.2.1
 have l3:=cQ u ⟨C,0,none⟩ h.2.2.2.2.2.2.2.2.2.2.1
 ⟨(hb.cell (p:=⟨A,0,none⟩) l1).trans h.1,(hb.cell (p:=⟨A,1,none⟩) l1).trans h.2.1,(hb.cell (p:=⟨A,2,none⟩) l1).trans h.2.2.1,(hb.cell (p:=⟨A,3,none⟩) l1).trans h.2.2.2.1,(hb.cell (p:=⟨A,4,none⟩) l1).trans h.2.2.2.2.1,(hb.cell (p:=⟨B,0,none⟩) l2).trans h.2.2.2.2.2.1,(hb.cell (p:=⟨B,1,none⟩) l2).trans h.2.2.2.2.2.2.1,(hb.cell (p:=⟨B,2,none⟩) l2).trans h.2.2.2.2.2.2.2.1,(hb.cell (p:=⟨B,3,none⟩) l2).trans h.2.2.2.2.2.2.2.2.1,(hb.cell (p:=⟨B,4,none⟩) l2).trans h.2.2.2.2.2.2.2.2.2.1,(hb.cell (p:=⟨C,0,none⟩) l3).trans h.2.2.2.2.2.2.2.2.2.2.1,(hb.cell (p:=⟨C,1,none⟩) l3).trans h.2.2.2.2.2.2.2.2.2.2.2.1,(hb.cell (p:=⟨C,2,none⟩) l3).trans h.2.2.2.2.2.2.2.2.2.2.2.2.1,(hb.cell (p:=⟨C,3,none⟩) l3).trans h.2.2.2.2.2.2.2.2.2.2.2.2.2⟩
theorem kW {w:World} {B b o:Nat} {v0 v1 v2 v3 v4 v5 v6 v7 v8 v9:Value} (h:b≠B):((((((((((w.setCell ⟨B,0,none⟩ v0).setCell ⟨B,1,none⟩ v1).setCell ⟨B,2,none⟩ v2).setCell ⟨B,3,none⟩ v3).setCell ⟨B,4,none⟩ v4).setCell ⟨B,5,none⟩ v5).setCell ⟨B,6,none⟩ v6).setCell ⟨B,7,none⟩ v7).setCell ⟨B,8,none⟩ v8).setCell ⟨B,9,none⟩ v9).cell? ⟨b,o,none⟩=w.cell? ⟨b,o,none⟩:=by refine nC ?_;rw[Below.heap_setCell _ _ _ _ h,Below.heap_setCell _ _ _ _ h,Below.heap_setCell _ _ _ _ h,Below.heap_setCell _ _ _ _ h,Below.heap_setCell _ _ _ _ h,Below.heap_setCell _ _ _ _ h,Below.heap_setCell _ _ _ _ h,Below.heap_setCell _ _ _ _ h,Below.heap_setCell _ _ _ _ h,Below.heap_setCell _ _ _ _ h]
def Cg (D:Nat) (u:World):Prop:=(∀i,i<10→u.cell? ⟨D,i,none⟩=some (.int .i64 0))∧∀i,u.frozen? ⟨D,i,none⟩=false
theorem Cg.below {D:Nat} {u u':World} (h:Cg D u) (hb:Below u.heap.size u u'):Cg D u':=
 have l:=cQ u ⟨D,0,none⟩ (h.1 0 (by omega))
 ⟨fun i hi=>(hb.cell (p:=⟨D,i,none⟩) l).trans (h.1 i hi),fun i=>(hb.frozen (p:=⟨D,i,none⟩) l).trans (h.2 i)⟩
theorem KB {A B C:Nat} {s t:T} {m:M} {u:World} {D:Nat} {v0 v1 v2 v3 v4 v5 v6 v7 v8 v9:Value} (h:KA A B C s t m u) (h1:A≠D) (h2:B≠D) (h3:C≠D):KA A B C s t m ((((((((((u.setCell ⟨D,0,none⟩ v0).setCell ⟨D,1,none⟩ v1).setCell ⟨D,2,none⟩ v2).setCell ⟨D,3,none⟩ v3).setCell ⟨D,4,none⟩ v4).setCell ⟨D,5,none⟩ v5).setCell ⟨D,6,none⟩ v6).setCell ⟨D,7,none⟩ v7).setCell ⟨D,8,none⟩ v8).setCell ⟨D,9,none⟩ v9):=
 ⟨(kW h1).trans h.1,(kW h1).trans h.2.1,(kW h1).trans h.2.2.1,(kW h1).trans h.2.2.2.1,(kW h1).trans h.2.2.2.2.1,(kW h2).trans h.2.2.2.2.2.1,(kW h2).trans h.2.2.2.2.2.2.1,(kW h2).trans h.2.2.2.2.2.2.2.1,(kW h2).trans h.2.2.2.2.2.2.2.2.1,(kW h2).trans h.2.2.2.2.2.2.2.2.2.1,(kW h3).trans h.2.2.2.2.2.2.2.2.2.2.1,(kW h3).trans h.2.2.2.2.2.2.2.2.2.2.2.1,(kW h3).trans h.2.2.2.2.2.2.2.2.2.2.2.2.1,(kW h3).trans h.2.2.2.2.2.2.2.2.2.2.2.2.2⟩
theorem TC {n B:Nat} {a w:World} (h:Below n a w) (hB:n≤B) (v0 v1 v2 v3 v4 v5 v6 v7 v8 v9:Value):Below n a ((((((((((w.setCell ⟨B,0,none⟩ v0).setCell ⟨B,1,none⟩ v1).setCell ⟨B,2,none⟩ v2).setCell ⟨B,3,none⟩ v3).setCell ⟨B,4,none⟩ v4).setCell ⟨B,5,none⟩ v5).setCell ⟨B,6,none⟩ v6).setCell ⟨B,7,none⟩ v7).setCell ⟨B,8,none⟩ v8).setCell ⟨B,9,none⟩ v9):=
 (((((((((h.setCell hB v0).setCell hB v1).setCell hB v2).setCell hB v3).setCell hB v4).setCell hB v5).setCell hB v6).setCell hB v7).setCell hB v8).setCell hB v9
theorem wB (w:World) (l:T) (b:M):Calls Tryz.prog 171 #[.agg #[.int .i64 l.c,.int .i64 l.m.x,.int .i64 l.m.y,.int .i64 l.m.d,.int .i64 l.m.e],.agg #[.int .i64 b.x,.int .i64 b.y,.int .i64 b.d,.int .i64 b.e]] w fun r w'=>r= .returned (.agg #[.int .i64 (gG l b).c,.int .i64 (gG l b).m.x,.int .i64 (gG l b).m.y,.int .i64 (gG l b).m.d,.int .i64 (gG l b).m.e])∧Below w.heap.size w w':=by
 obtain⟨m,bv,hm⟩:∃m bv,M.over ⟨b.x,b.y,b.d,b.e⟩ ⟨l.m.x,l.m.y,l.m.d,l.m.e⟩=(m,bv):=⟨_,_,rfl⟩
 have e1:gG l b=⟨lI l.c,m⟩:=by unfold gG;rw[show M.over b l.m=(m,bv)from hm]
 rw[e1];clear e1;go_enter Tryz.func171,Tryz.ntmps171;go_wp2_with fail;refine(tZ hm _).mono ?_;rintro r w1 ⟨rfl,hb1⟩;obtain⟨hc1,hf1⟩:=aL hb1;have hz1:w.heap.size+1+1<w1.heap.size:=by have:=hb1.size;simp at this;omega
 have HB1:=aA (aB (aP w _ _ _) hb1);have q0:w1.cell? ⟨w.heap.size,0,none⟩=some (.int .i64 l.c):=by go_simp
 have t0:w1.cell? ⟨w.heap.size+1+1,0,none⟩=some (.int .i64 0):=by go_simp
 have t1:w1.cell? ⟨w.heap.size+1+1,1,none⟩=some (.int .i64 0):=by go_simp
 have t2:w1.cell? ⟨w.heap.size+1+1,2,none⟩=some (.int .i64 0):=by go_simp
 have t3:w1.cell? ⟨w.heap.size+1+1,3,none⟩=some (.int .i64 0):=by go_simp
 have t4:w1.cell? ⟨w.heap.size+1+1,4,none⟩=some (.int .i64 0):=by go_simp
 have z0:∀i,w1.frozen? ⟨w.heap.size+1+1,i,none⟩=false:=fun i=>by go_simp
 have hz2:w.heap.size<w1.heap.size:=by omega
 have HB2:=aA (HB1.out.alloc HB1.out.size (.cells #[.int .i64 m.x,.int .i64 m.y,.int .i64 m.d,.int .i64 m.e] 84));have hS:L5 w.heap.size 0 w1.heap.size (.int .i64 l.c) m (w1.alloc (.cells #[.int .i64 m.x,.int .i64 m.y,.int .i64 m.d,.int .i64 m.e] 84)).drew:=by have h4:=M4.box w1 84 m.x m.y m.d m.e;exact⟨(BH _ _ _ hz2).trans q0,h4.1,h4.2.1,h4.2.2.1,h4.2.2.2⟩
 clear hc1 hf1 hb1 hm;go_wp2_with fail;obtain⟨p0,p1,p2,p3,p4⟩:=hS
 go_region_with (first|(go_at_call 132;refine(Cr _ _).mono ?_;rintro r w7 ⟨rfl,hw7⟩;obtain rfl:=hw7.symm;clear hw7))
 all_goals
  go_wp2;refine cV (v:=.agg #[.int .i64 (lI l.c),.int .i64 m.x,.int .i64 m.y,.int .i64 m.d,.int .i64 m.e]) (by simp[results,Tryz.results171,go_sem, *]) rfl ⟨rfl,?_⟩;exact TD HB1.out (by omega) _ _ _ _ _
theorem YP (w:World) (la lb:T):Calls Tryz.prog 143 #[.agg #[.int .i64 la.c,.int .i64 la.m.x,.int .i64 la.m.y,.int .i64 la.m.d,.int .i64 la.m.e],.agg #[.int .i64 lb.c,.int .i64 lb.m.x,.int .i64 lb.m.y,.int .i64 lb.m.d,.int .i64 lb.m.e]] w fun r w'=>r= .returned (.agg #[.int .i64 (gG la (M.both la.m lb.m)).c,.int .i64 (gG la (M.both la.m lb.m)).m.x,.int .i64 (gG la (M.both la.m lb.m)).m.y,.int .i64 (gG la (M.both la.m lb.m)).m.d,.int .i64 (gG la (M.both la.m lb.m)).m.e,.int .i64 (gG lb (M.both la.m lb.m)).c,.int .i64 (gG lb (M.both la.m lb.m)).m.x,.int .i64 (gG lb (M.both la.m lb.m)).m.y,.int .i64 (gG lb (M.both la.m lb.m)).m.d,.int .i64 (gG lb (M.both la.m lb.m)).m.e])∧Below w.heap.size w w':=by
 obtain⟨m,hm⟩:∃m,M.both ⟨la.m.x,la.m.y,la.m.d,la.m.e⟩ ⟨lb.m.x,lb.m.y,lb.m.d,lb.m.e⟩=m:=⟨_,rfl⟩
 rw[show M.both la.m lb.m=m from hm];obtain⟨U,hU⟩:∃U,gG la m=U:=⟨_,rfl⟩
 obtain⟨V,hV⟩:∃V,gG lb m=V:=⟨_,rfl⟩
 rw[hU,hV];have c1:=fun W=>wB W la m
 have c2:=fun W=>wB W lb m;rw[hU]at c1;rw[hV]at c2;clear hU hV;go_enter Tryz.func143,Tryz.ntmps143;go_wp2_with fail;refine(DA hm _).mono ?_;rintro r w1 ⟨rfl,hb1⟩;obtain⟨hc1,hf1⟩:=aL hb1;have hz1:w.heap.size+1+1<w1.heap.size:=by have:=hb1.size;simp at this;omega
 have HB1:=aA (aB (aP w _ _ _) hb1);have hS:KA w.heap.size (w.heap.size+1) w1.heap.size la lb m (w1.alloc (.cells #[.int .i64 m.x,.int .i64 m.y,.int .i64 m.d,.int .i64 m.e] 84)).drew:=by
  have h4:=M4.box w1 84 m.x m.y m.d m.e;have k1:w.heap.size<w1.heap.size:=by omega
  have k2:w.heap.size+1<w1.heap.size:=by omega
  refine⟨(BH _ _ _ k1).trans (by go_simp),(BH _ _ _ k1).trans (by go_simp),(BH _ _ _ k1).trans (by go_simp),(BH _ _ _ k1).trans (by go_simp),(BH _ _ _ k1).trans (by go_simp),(BH _ _ _ k2).trans (by go_simp),(BH _ _ _ k2).trans (by go_simp),(BH _ _ _ k2).trans (by go_simp),(BH _ _ _ k2).trans (by go_simp),(BH _ _ _ k2).trans (by go_simp),h4.1,h4.2.1,h4.2.2.1,h4.2.2.2⟩
 have hZ:Cg (w.heap.size+1+1) (w1.alloc (.cells #[.int .i64 m.x,.int .i64 m.y,.int .i64 m.d,.int .i64 m.e] 84)).drew:=by
  refine⟨fun i hi=>(BH _ _ _ hz1).trans ?_,fun i=>((aC w1 _).frozen (p:=⟨w.heap.size+1+1,i,none⟩) hz1).trans (by go_simp)⟩;have h10:i=0∨i=1∨i=2∨i=3∨i=4∨i=5∨i=6∨i=7∨i=8∨i=9:=by omega
  rcases h10 with rfl|rfl|rfl|rfl|rfl|rfl|rfl|rfl|rfl|rfl<;>go_simp
 have HZ:=aA hZ;clear hm hb1 hc1 hf1 hZ;have hz2:w.heap.size+1<w1.heap.size:=by omega
 have hz3:w.heap.size<w1.heap.size:=by omega
 have HB2:=aA (HB1.out.alloc HB1.out.size (.cells #[.int .i64 m.x,.int .i64 m.y,.int .i64 m.d,.int .i64 m.e] 84));go_wp2_with fail
 go_region_held3 (fun u=>u.cell? ⟨w.heap.size,0,none⟩=some (.int .i64 la.c)∧u.cell? ⟨w.heap.size,1,none⟩=some (.int .i64 la.m.x)∧u.cell? ⟨w.heap.size,2,none⟩=some (.int .i64 la.m.y)∧u.cell? ⟨w.heap.size,3,none⟩=some (.int .i64 la.m.d)∧u.cell? ⟨w.heap.size,4,none⟩=some (.int .i64 la.m.e)∧u.cell? ⟨w.heap.size+1,0,none⟩=some (.int .i64 lb.c)∧u.cell? ⟨w.heap.size+1,1,none⟩=some (.int .i64 lb.m.x)∧u.cell? ⟨w.heap.size+1,2,none⟩=some (.int .i64 lb.m.y)∧u.cell? ⟨w.heap.size+1,3,none⟩=some (.int .i64 lb.m.d)∧u.cell? ⟨w.heap.size+1,4,none⟩=some (.int .i64 lb.m.e)∧u.cell? ⟨w1.heap.size,0,none⟩=some (.int .i64 m.x)∧u.cell? ⟨w1.heap.size,1,none⟩=some (.int .i64 m.y)∧u.cell? ⟨w1.heap.size,2,none⟩=some (.int .i64 m.d)∧u.cell? ⟨w1.heap.size,3,none⟩=some (.int .i64 m.e)) (first|with_reducible exact hS|with_reducible exact KA.below hS b1|with_reducible exact KA.below (KA.below hS b1) b2|with_reducible exact KB (KA.below (KA.below hS b1) b2) (by omega) (by omega) (by omega)) (first|(go_at_call_of 171 (Value.agg #[Value.int .i64 la.c,Value.int .i64 la.m.x,Value.int .i64 la.m.y,Value.int .i64 la.m.d,Value.int .i64 la.m.e]);refine(c1 _).mono ?_;rintro r w2 ⟨rfl,b1⟩)|(go_at_call_of 171 (Value.agg #[Value.int .i64 lb.c,Value.int .i64 lb.m.x,Value.int .i64 lb.m.y,Value.int .i64 lb.m.d,Value.int .i64 lb.m.e]);refine(c2 _).mono ?_;rintro r w3 ⟨rfl,b2⟩;have hZ3:=(HZ.out.below b1).below b2;have d0:=hZ3.1 0 (by omega);have d1:=hZ3.1 1 (by omega);have d2:=hZ3.1 2 (by omega);have d3:=hZ3.1 3 (by omega);have d4:=hZ3.1 4 (by omega);have d5:=hZ3.1 5 (by omega);have d6:=hZ3.1 6 (by omega);have d7:=hZ3.1 7 (by omega);have d8:=hZ3.1 8 (by omega);have d9:=hZ3.1 9 (by omega);have dz:=hZ3.2;clear hZ3))
 have HB4:=aA (aB (aB HB2.out.drew b1) b2);go_wp2;refine cV (v:=.agg #[.int .i64 U.c,.int .i64 U.m.x,.int .i64 U.m.y,.int .i64 U.m.d,.int .i64 U.m.e,.int .i64 V.c,.int .i64 V.m.x,.int .i64 V.m.y,.int .i64 V.m.d,.int .i64 V.m.e]) (by simp[results,Tryz.results143,go_sem, *]) rfl ⟨rfl,?_⟩;exact TC HB4.out (by omega) _ _ _ _ _ _ _ _ _ _
end Go.Proofs.YtelkehjdfcoeiaaGreat
