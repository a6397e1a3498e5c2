/-
  More of the program's chapter 2: how two monomials stand in an order, their product, what divides, what is left.
-/
import Derived.Test.YtmlaedpamobmhaaGreatMab
import Derived.WalkSmall
set_option maxHeartbeats 4000000
set_option maxRecDepth 100000
namespace Go.Proofs.YtmlaedpamobmhaaGreat
open Go.RowKit
set_option linter.unusedVariables false
theorem vH {a b a' b':Int} (h1:a<b↔a'<b') (h2:b<a↔b'<a'):c3 a b=c3 a' b':=by unfold c3;simp only[h1,h2]
theorem KH {a b:M} (ha:a.ok=true) (hb:b.ok=true):c3 (gE a) (gE b)=M.lex a b:=by
 obtain⟨x1,x2,y1,y2,d1,d2,e1,e2⟩:=M.ok_iff.1 ha;obtain⟨x3,x4,y3,y4,d3,d4,e3,e4⟩:=M.ok_iff.1 hb;by_cases hd:a.d=b.d
 ·by_cases he:a.e=b.e
  ·by_cases hx:a.x=b.x
   ·have h:M.lex a b=c3 a.y b.y:=by simp[M.lex,hd,he,hx]
    rw[h];exact vH (by unfold gE;omega) (by unfold gE;omega)
   ·have h:M.lex a b=c3 a.x b.x:=by simp[M.lex,hd,he,hx]
    rw[h];exact vH (by unfold gE;omega) (by unfold gE;omega)
  ·have h:M.lex a b=c3 a.e b.e:=by simp[M.lex,hd,he]
   rw[h];exact vH (by unfold gE;omega) (by unfold gE;omega)
 ·have h:M.lex a b=c3 a.d b.d:=by simp[M.lex,hd]
  rw[h];exact vH (by unfold gE;omega) (by unfold gE;omega)
theorem yS {a b:M} (ha:a.ok=true) (hb:b.ok=true):c3 (eQ a) (eQ b)=M.ord 1 a b:=by
 obtain⟨x1,x2,y1,y2,d1,d2,e1,e2⟩:=M.ok_iff.1 ha;obtain⟨x3,x4,y3,y4,d3,d4,e3,e4⟩:=M.ok_iff.1 hb;have da:a.deg=a.x+a.y+a.d+a.e:=by simp[M.deg,ha]
 have db:b.deg=b.x+b.y+b.d+b.e:=by simp[M.deg,hb]
 have la:0≤gE a∧gE a≤65535:=by simp only[gE];omega
 have lb:0≤gE b∧gE b≤65535:=by simp only[gE];omega
 by_cases h:a.deg=b.deg
 ·have e1:M.ord 1 a b=M.lex a b:=by simp[M.ord,h]
  rw[e1,←KH ha hb];rw[da,db]at h;exact vH (by unfold eQ;omega) (by unfold eQ;omega)
 ·have e1:M.ord 1 a b=c3 a.deg b.deg:=by simp[M.ord,h]
  rw[e1,da,db];rw[da,db]at h;exact vH (by unfold eQ;omega) (by unfold eQ;omega)
theorem KI {a b:M} (ha:a.ok=true) (hb:b.ok=true):c3 (uY a) (uY b)=M.ord 3 a b:=by
 obtain⟨x1,x2,y1,y2,d1,d2,e1,e2⟩:=M.ok_iff.1 ha;obtain⟨x3,x4,y3,y4,d3,d4,e3,e4⟩:=M.ok_iff.1 hb;have la:0≤gE a∧gE a≤65535:=by simp only[gE];omega
 have lb:0≤gE b∧gE b≤65535:=by simp only[gE];omega
 by_cases h:a.d+a.x=b.d+b.x
 ·have e1:M.ord 3 a b=M.lex a b:=by simp[M.ord,h]
  rw[e1,←KH ha hb];exact vH (by unfold uY;omega) (by unfold uY;omega)
 ·have e1:M.ord 3 a b=c3 (a.d+a.x) (b.d+b.x):=by simp[M.ord,h]
  rw[e1];exact vH (by unfold uY;omega) (by unfold uY;omega)
theorem KJ {a b:M} (ha:a.ok=true) (hb:b.ok=true):c3 (gE a) (gE b)=M.ord 2 a b:=by rw[KH ha hb];simp[M.ord]
theorem Cy (a:Int) (w:World):Calls Tryz.prog 162 #[.int .i64 a] w fun r w'=>r= .returned (.bool false)∧w'=w:=by go_enter Tryz.func162,Tryz.ntmps162;go_wp2;go_ret;exact⟨by simp,rfl⟩
theorem SN (a b:Int) (w:World):Calls Tryz.prog 145 #[.int .i64 a,.int .i64 b] w fun r w'=>r= .returned (.int .i64 (c3 a b))∧w'=w:=by
 by_cases h1:a<b
 ·have e1:c3 a b= -1:=by simp[c3,h1]
  rw[e1];go_enter Tryz.func145,Tryz.ntmps145;go_wp2_with (first|(go_at_call 162;refine(Cy _ _).mono ?_;rintro r w' ⟨rfl,rfl⟩));go_ret;exact⟨rfl,rfl⟩
 ·by_cases h2:b<a
  ·have e1:c3 a b=1:=by simp[c3,h1,h2]
   rw[e1];go_enter Tryz.func145,Tryz.ntmps145;go_wp2_with (first|(go_at_call 162;refine(Cy _ _).mono ?_;rintro r w' ⟨rfl,rfl⟩));go_ret;exact⟨rfl,rfl⟩
  ·have e1:c3 a b=0:=by simp[c3,h1,h2]
   rw[e1];go_enter Tryz.func145,Tryz.ntmps145;go_wp2_with (first|(go_at_call 162;refine(Cy _ _).mono ?_;rintro r w' ⟨rfl,rfl⟩));go_ret;exact⟨rfl,rfl⟩
theorem oE (o:Int) (w:World) (h:o<1∨3<o):Calls Tryz.prog 71 #[.int .i64 o] w fun r w'=>r= .returned (.tuple #[.nilFunc,.bool false])∧Below w.heap.size w w':=by
 rcases h with h|h
 all_goals
  go_enter Tryz.func71,Tryz.ntmps71;go_wp2
  go_ret2
  exact⟨rfl,aC w _⟩
theorem pU (w:World):Calls Tryz.prog 71 #[.int .i64 1] w fun r w'=>r= .returned (.tuple #[.func (.func 88) #[] #[],.bool true])∧Below w.heap.size w w':=by
 go_enter Tryz.func71,Tryz.ntmps71;go_wp2
 go_ret2
 exact⟨rfl,aC w _⟩
theorem pV (w:World):Calls Tryz.prog 71 #[.int .i64 2] w fun r w'=>r= .returned (.tuple #[.func (.func 109) #[] #[],.bool true])∧Below w.heap.size w w':=by
 go_enter Tryz.func71,Tryz.ntmps71;go_wp2
 go_ret2
 exact⟨rfl,aC w _⟩
theorem pW (w:World):Calls Tryz.prog 71 #[.int .i64 3] w fun r w'=>r= .returned (.tuple #[.func (.func 110) #[] #[],.bool true])∧Below w.heap.size w w':=by
 go_enter Tryz.func71,Tryz.ntmps71;go_wp2
 go_ret2
 exact⟨rfl,aC w _⟩
theorem iR (o:Int) (w:World) (h1:1≤o) (h2:o≤3):Calls Tryz.prog 71 #[.int .i64 o] w fun r w'=>∃fv,r= .returned (.tuple #[fv,.bool true])∧Below w.heap.size w w':=by
 have ho3:o=1∨o=2∨o=3:=by omega
 rcases ho3 with rfl|rfl|rfl
 ·exact(pU w).mono fun _ _ h=>⟨_,h⟩
 ·exact(pV w).mono fun _ _ h=>⟨_,h⟩
 ·exact(pW w).mono fun _ _ h=>⟨_,h⟩
theorem ME (x y d e x' y' d' e':Int) (w:World):Calls Tryz.prog 123 #[.agg #[.int .i64 x,.int .i64 y,.int .i64 d,.int .i64 e],.agg #[.int .i64 x',.int .i64 y',.int .i64 d',.int .i64 e']] w fun r w'=>r= .returned (.tuple #[.agg #[.int .i64 (M.mul ⟨x,y,d,e⟩ ⟨x',y',d',e'⟩).1.x,.int .i64 (M.mul ⟨x,y,d,e⟩ ⟨x',y',d',e'⟩).1.y,.int .i64 (M.mul ⟨x,y,d,e⟩ ⟨x',y',d',e'⟩).1.d,.int .i64 (M.mul ⟨x,y,d,e⟩ ⟨x',y',d',e'⟩).1.e],.bool (M.mul ⟨x,y,d,e⟩ ⟨x',y',d',e'⟩).2])∧Below w.heap.size w w':=by
 cases ha:M.ok ⟨x,y,d,e⟩
 ·have r1:M.mul ⟨x,y,d,e⟩ ⟨x',y',d',e'⟩=(M.zero,false):=by simp[M.mul,ha]
  rw[r1];simp only[M.zero];go_enter Tryz.func123,Tryz.ntmps123;go_wp2_with fail;refine(lT _ _ _ _ _).mono ?_;rw[ha];rintro r w1 ⟨rfl,hb1⟩;obtain⟨hc1,hf1⟩:=aP hb1;have hz1:w.heap.size+1+1<w1.heap.size:=by have:=hb1.size;simp at this;omega
  go_wp2;refine cW (v:=.tuple #[.agg #[.int .i64 0,.int .i64 0,.int .i64 0,.int .i64 0],.bool false]) (by simp[results,Tryz.results123,go_sem, *]) rfl ⟨rfl,?_⟩;exact dQ (aB (aX w _ _ _) hb1) (by omega) _ _ _ _
 ·cases hb:M.ok ⟨x',y',d',e'⟩
  ·have r1:M.mul ⟨x,y,d,e⟩ ⟨x',y',d',e'⟩=(M.zero,false):=by simp[M.mul,hb]
   rw[r1];simp only[M.zero];clear r1;go_enter Tryz.func123,Tryz.ntmps123;go_wp2_with fail;refine(lT _ _ _ _ _).mono ?_;rw[ha];rintro r w1 ⟨rfl,hb1⟩;obtain⟨hc1,hf1⟩:=aP hb1;have hz1:w.heap.size+1+1<w1.heap.size:=by have:=hb1.size;simp at this;omega
   go_wp2_with fail;refine(lT _ _ _ _ _).mono ?_;rw[hb];rintro r w2 ⟨rfl,hb2⟩;obtain⟨hc2,hf2⟩:=aP hb2;have hz2:w.heap.size+1+1<w2.heap.size:=by have:=hb2.size;omega
   go_wp2;refine cW (v:=.tuple #[.agg #[.int .i64 0,.int .i64 0,.int .i64 0,.int .i64 0],.bool false]) (by simp[results,Tryz.results123,go_sem, *]) rfl ⟨rfl,?_⟩;exact dQ (aB (aB (aX w _ _ _) hb1) hb2) (by omega) _ _ _ _
  ·obtain⟨x1,x2,y1,y2,d1,d2,e1,e2⟩:=M.ok_iff.1 ha;obtain⟨x3,x4,y3,y4,d3,d4,e3,e4⟩:=M.ok_iff.1 hb;simp only at x1 x2 y1 y2 d1 d2 e1 e2 x3 x4 y3 y4 d3 d4 e3 e4;cases hs:M.ok ⟨x+x',y+y',d+d',e+e'⟩
   ·have r1:M.mul ⟨x,y,d,e⟩ ⟨x',y',d',e'⟩=(M.zero,false):=by simp[M.mul,M.sum,hs]
    rw[r1];simp only[M.zero];clear r1;go_enter Tryz.func123,Tryz.ntmps123;go_wp2_with fail;refine(lT _ _ _ _ _).mono ?_;rw[ha];rintro r w1 ⟨rfl,hb1⟩;obtain⟨hc1,hf1⟩:=aP hb1;have hz1:w.heap.size+1+1<w1.heap.size:=by have:=hb1.size;simp at this;omega
    have hz0:w.heap.size+1<w1.heap.size:=by omega
    have hzz:w.heap.size<w1.heap.size:=by omega
    go_wp2_with fail;refine(lT _ _ _ _ _).mono ?_;rw[hb];rintro r w2 ⟨rfl,hb2⟩;obtain⟨hc2,hf2⟩:=aP hb2;have hz2:w.heap.size+1+1<w2.heap.size:=by have:=hb2.size;omega
    go_wp2_with fail;refine(lT _ _ _ _ _).mono ?_;rw[hs];rintro r w3 ⟨rfl,hb3⟩;obtain⟨hc3,hf3⟩:=aP (aB ((bQ w2.heap.size w2).alloc (Nat.le_refl _) _) hb3);have ht:∀i,w3.cell? ⟨w2.heap.size,i,none⟩=#[Value.int .i64 (x+x'),.int .i64 (y+y'),.int .i64 (d+d'),.int .i64 (e+e')][i]? :=fun i=>by rw[hb3.cell (p:=⟨w2.heap.size,i,none⟩) (by simp),World.cell?_alloc_at _ _ _ _ rfl]
    have hB:=aB ((aB (aB (aX w _ _ _) hb1) hb2).alloc (aB (aB (aX w _ _ _) hb1) hb2).size _) hb3;go_wp2;refine cW (v:=.tuple #[.agg #[.int .i64 0,.int .i64 0,.int .i64 0,.int .i64 0],.bool false]) (by simp[results,Tryz.results123,go_sem, *]) rfl ⟨rfl,?_⟩;exact dQ hB (by omega) _ _ _ _
   ·have r1:M.mul ⟨x,y,d,e⟩ ⟨x',y',d',e'⟩=(⟨x+x',y+y',d+d',e+e'⟩,true):=by simp[M.mul,M.sum,hs,ha,hb]
    rw[r1];clear r1;go_enter Tryz.func123,Tryz.ntmps123;go_wp2_with fail;refine(lT _ _ _ _ _).mono ?_;rw[ha];rintro r w1 ⟨rfl,hb1⟩;obtain⟨hc1,hf1⟩:=aP hb1;have hz1:w.heap.size+1+1<w1.heap.size:=by have:=hb1.size;simp at this;omega
    have hz0:w.heap.size+1<w1.heap.size:=by omega
    have hzz:w.heap.size<w1.heap.size:=by omega
    go_wp2_with fail;refine(lT _ _ _ _ _).mono ?_;rw[hb];rintro r w2 ⟨rfl,hb2⟩;obtain⟨hc2,hf2⟩:=aP hb2;have hz2:w.heap.size+1+1<w2.heap.size:=by have:=hb2.size;omega
    go_wp2_with fail;refine(lT _ _ _ _ _).mono ?_;rw[hs];rintro r w3 ⟨rfl,hb3⟩;obtain⟨hc3,hf3⟩:=aP (aB ((bQ w2.heap.size w2).alloc (Nat.le_refl _) _) hb3);have ht:∀i,w3.cell? ⟨w2.heap.size,i,none⟩=#[Value.int .i64 (x+x'),.int .i64 (y+y'),.int .i64 (d+d'),.int .i64 (e+e')][i]? :=fun i=>by rw[hb3.cell (p:=⟨w2.heap.size,i,none⟩) (by simp),World.cell?_alloc_at _ _ _ _ rfl]
    have hB:=aB ((aB (aB (aX w _ _ _) hb1) hb2).alloc (aB (aB (aX w _ _ _) hb1) hb2).size _) hb3;go_wp2;refine cW (v:=.tuple #[.agg #[.int .i64 (x+x'),.int .i64 (y+y'),.int .i64 (d+d'),.int .i64 (e+e')],.bool true]) (by simp[results,Tryz.results123,go_sem, *]) rfl ⟨rfl,?_⟩;exact dQ hB (by omega) _ _ _ _
theorem FW (x y d e x' y' d' e':Int) (w:World):Calls Tryz.prog 34 #[.agg #[.int .i64 x,.int .i64 y,.int .i64 d,.int .i64 e],.agg #[.int .i64 x',.int .i64 y',.int .i64 d',.int .i64 e']] w fun r w'=>r= .returned (.bool (M.dvd ⟨x,y,d,e⟩ ⟨x',y',d',e'⟩))∧Below w.heap.size w w':=by
 cases ha:M.ok ⟨x,y,d,e⟩
 ·have r1:M.dvd ⟨x,y,d,e⟩ ⟨x',y',d',e'⟩=false:=by simp[M.dvd,ha]
  rw[r1];clear r1;go_enter Tryz.func34,Tryz.ntmps34;go_wp2_with fail;refine(cX ha _).mono ?_;rintro r w1 ⟨rfl,hb1⟩;go_wp2;go_ret;exact⟨rfl,aB (aQ w _ _) hb1⟩
 ·cases hb:M.ok ⟨x',y',d',e'⟩
  ·have r1:M.dvd ⟨x,y,d,e⟩ ⟨x',y',d',e'⟩=false:=by simp[M.dvd,hb]
   rw[r1];clear r1;go_enter Tryz.func34,Tryz.ntmps34;go_wp2_with fail;refine(cX ha _).mono ?_;rintro r w1 ⟨rfl,hb1⟩;obtain⟨hc1,hf1⟩:=aP hb1;have hz1:w.heap.size+1<w1.heap.size:=by have:=hb1.size;simp at this;omega
   have hy1:w.heap.size<w1.heap.size:=by omega
   go_wp2_with fail;refine(cX hb _).mono ?_;rintro r w2 ⟨rfl,hb2⟩;obtain⟨hc2,hf2⟩:=aP hb2;go_wp2;go_ret;exact⟨rfl,aB (aB (aQ w _ _) hb1) hb2⟩
  ·skip
   by_cases h0:x≤x'
   ·have t0:decide (x≤x')=true:=decide_eq_true h0;by_cases h1:y≤y'
    ·have t1:decide (y≤y')=true:=decide_eq_true h1;by_cases h2:d≤d'
     ·have t2:decide (d≤d')=true:=decide_eq_true h2;by_cases h3:e≤e'
      ·have t3:decide (e≤e')=true:=decide_eq_true h3;have r1:M.dvd ⟨x,y,d,e⟩ ⟨x',y',d',e'⟩=true:=by simp[M.dvd,ha,hb,h0,h1,h2,h3]
       rw[r1];clear r1;go_enter Tryz.func34,Tryz.ntmps34;go_wp2_with fail;refine(cX ha _).mono ?_;rintro r w1 ⟨rfl,hb1⟩;obtain⟨hc1,hf1⟩:=aP hb1;have hz1:w.heap.size+1<w1.heap.size:=by have:=hb1.size;simp at this;omega
       have hy1:w.heap.size<w1.heap.size:=by omega
       go_wp2_with fail;refine(cX hb _).mono ?_;rintro r w2 ⟨rfl,hb2⟩;obtain⟨hc2,hf2⟩:=aP hb2;go_wp2;go_ret;exact⟨rfl,aB (aB (aQ w _ _) hb1) hb2⟩
      ·have t3:decide (e≤e')=false:=decide_eq_false h3;have r1:M.dvd ⟨x,y,d,e⟩ ⟨x',y',d',e'⟩=false:=by simp[M.dvd,h3]
       rw[r1];clear r1;go_enter Tryz.func34,Tryz.ntmps34;go_wp2_with fail;refine(cX ha _).mono ?_;rintro r w1 ⟨rfl,hb1⟩;obtain⟨hc1,hf1⟩:=aP hb1;have hz1:w.heap.size+1<w1.heap.size:=by have:=hb1.size;simp at this;omega
       have hy1:w.heap.size<w1.heap.size:=by omega
       go_wp2_with fail;refine(cX hb _).mono ?_;rintro r w2 ⟨rfl,hb2⟩;obtain⟨hc2,hf2⟩:=aP hb2;go_wp2;go_ret;exact⟨rfl,aB (aB (aQ w _ _) hb1) hb2⟩
     ·have t2:decide (d≤d')=false:=decide_eq_false h2;have r1:M.dvd ⟨x,y,d,e⟩ ⟨x',y',d',e'⟩=false:=by simp[M.dvd,h2]
      rw[r1];clear r1;go_enter Tryz.func34,Tryz.ntmps34;go_wp2_with fail;refine(cX ha _).mono ?_;rintro r w1 ⟨rfl,hb1⟩;obtain⟨hc1,hf1⟩:=aP hb1;have hz1:w.heap.size+1<w1.heap.size:=by have:=hb1.size;simp at this;omega
      have hy1:w.heap.size<w1.heap.size:=by omega
      go_wp2_with fail;refine(cX hb _).mono ?_;rintro r w2 ⟨rfl,hb2⟩;obtain⟨hc2,hf2⟩:=aP hb2;go_wp2;go_ret;exact⟨rfl,aB (aB (aQ w _ _) hb1) hb2⟩
    ·have t1:decide (y≤y')=false:=decide_eq_false h1;have r1:M.dvd ⟨x,y,d,e⟩ ⟨x',y',d',e'⟩=false:=by simp[M.dvd,h1]
     rw[r1];clear r1;go_enter Tryz.func34,Tryz.ntmps34;go_wp2_with fail;refine(cX ha _).mono ?_;rintro r w1 ⟨rfl,hb1⟩;obtain⟨hc1,hf1⟩:=aP hb1;have hz1:w.heap.size+1<w1.heap.size:=by have:=hb1.size;simp at this;omega
     have hy1:w.heap.size<w1.heap.size:=by omega
     go_wp2_with fail;refine(cX hb _).mono ?_;rintro r w2 ⟨rfl,hb2⟩;obtain⟨hc2,hf2⟩:=aP hb2;go_wp2;go_ret;exact⟨rfl,aB (aB (aQ w _ _) hb1) hb2⟩
   ·have t0:decide (x≤x')=false:=decide_eq_false h0;have r1:M.dvd ⟨x,y,d,e⟩ ⟨x',y',d',e'⟩=false:=by simp[M.dvd,h0]
    rw[r1];clear r1;go_enter Tryz.func34,Tryz.ntmps34;go_wp2_with fail;refine(cX ha _).mono ?_;rintro r w1 ⟨rfl,hb1⟩;obtain⟨hc1,hf1⟩:=aP hb1;have hz1:w.heap.size+1<w1.heap.size:=by have:=hb1.size;simp at this;omega
    have hy1:w.heap.size<w1.heap.size:=by omega
    go_wp2_with fail;refine(cX hb _).mono ?_;rintro r w2 ⟨rfl,hb2⟩;obtain⟨hc2,hf2⟩:=aP hb2;go_wp2;go_ret;exact⟨rfl,aB (aB (aQ w _ _) hb1) hb2⟩
theorem lQ {x y d e x' y' d' e':Int} {b:Bool} (h:M.dvd ⟨x,y,d,e⟩ ⟨x',y',d',e'⟩=b) (w:World):Calls Tryz.prog 34 #[.agg #[.int .i64 x,.int .i64 y,.int .i64 d,.int .i64 e],.agg #[.int .i64 x',.int .i64 y',.int .i64 d',.int .i64 e']] w fun r w'=>r= .returned (.bool b)∧Below w.heap.size w w':=by rw[←h];exact FW _ _ _ _ _ _ _ _ w
theorem TX (x y d e x' y' d' e':Int) (w:World):Calls Tryz.prog 141 #[.agg #[.int .i64 x,.int .i64 y,.int .i64 d,.int .i64 e],.agg #[.int .i64 x',.int .i64 y',.int .i64 d',.int .i64 e']] w fun r w'=>r= .returned (.tuple #[.agg #[.int .i64 (M.over ⟨x,y,d,e⟩ ⟨x',y',d',e'⟩).1.x,.int .i64 (M.over ⟨x,y,d,e⟩ ⟨x',y',d',e'⟩).1.y,.int .i64 (M.over ⟨x,y,d,e⟩ ⟨x',y',d',e'⟩).1.d,.int .i64 (M.over ⟨x,y,d,e⟩ ⟨x',y',d',e'⟩).1.e],.bool (M.over ⟨x,y,d,e⟩ ⟨x',y',d',e'⟩).2])∧Below w.heap.size w w':=by
 cases hd:M.dvd ⟨x',y',d',e'⟩ ⟨x,y,d,e⟩
 ·have r1:M.over ⟨x,y,d,e⟩ ⟨x',y',d',e'⟩=(M.zero,false):=by simp[M.over,hd]
  rw[r1];simp only[M.zero];clear r1;go_enter Tryz.func141,Tryz.ntmps141;go_wp2_with fail;refine(lQ hd _).mono ?_;rintro r w1 ⟨rfl,hb1⟩;obtain⟨hc1,hf1⟩:=aP hb1;have hz1:w.heap.size+1+1<w1.heap.size:=by have:=hb1.size;simp at this;omega
  go_wp2;refine cW (v:=.tuple #[.agg #[.int .i64 0,.int .i64 0,.int .i64 0,.int .i64 0],.bool false]) (by simp[results,Tryz.results141,go_sem, *]) rfl ⟨rfl,?_⟩;exact dQ (aB (aX w _ _ _) hb1) (by omega) _ _ _ _
 ·obtain⟨o1,o2,l1,l2,l3,l4⟩:=kQ hd;obtain⟨x1,x2,y1,y2,d1,d2,e1,e2⟩:=M.ok_iff.1 o1;obtain⟨x3,x4,y3,y4,d3,d4,e3,e4⟩:=M.ok_iff.1 o2;simp only at x1 x2 y1 y2 d1 d2 e1 e2 x3 x4 y3 y4 d3 d4 e3 e4 l1 l2 l3 l4;have r1:M.over ⟨x,y,d,e⟩ ⟨x',y',d',e'⟩=(⟨x-x',y-y',d-d',e-e'⟩,true):=by simp[M.over,hd,M.diff]
  rw[r1];clear r1 o1 o2;go_enter Tryz.func141,Tryz.ntmps141;go_wp2_with fail;refine(lQ hd _).mono ?_;rintro r w1 ⟨rfl,hb1⟩;obtain⟨hc1,hf1⟩:=aP hb1;have hz1:w.heap.size+1+1<w1.heap.size:=by have:=hb1.size;simp at this;omega
  go_wp2;refine cW (v:=.tuple #[.agg #[.int .i64 (x-x'),.int .i64 (y-y'),.int .i64 (d-d'),.int .i64 (e-e')],.bool true]) (by simp[results,Tryz.results141,go_sem, *]) rfl ⟨rfl,?_⟩;exact dQ (aB (aX w _ _ _) hb1) (by omega) _ _ _ _
structure T where
 c:Int
 m:M
def kG (f:Nat→T) (i:Nat):Bool:=decide (1≤(f i).c∧(f i).c≤100)&&(f i).m.ok&&(decide (i=0)||decide (0<M.ord 1 (f (i-1)).m (f i).m))
def aL (n:Nat) (f:Nat→T):Bool:=decide (n≤400∧∀i,i<n→kG f i=true)
def oM (w:World) (b o:Nat) (t:T):Prop:=
 w.cell? ⟨b,o,none⟩=some (.int .i64 t.c)∧w.cell? ⟨b,o+1,none⟩=some (.int .i64 t.m.x)∧w.cell? ⟨b,o+2,none⟩=some (.int .i64 t.m.y)∧w.cell? ⟨b,o+3,none⟩=some (.int .i64 t.m.d)∧w.cell? ⟨b,o+4,none⟩=some (.int .i64 t.m.e)
def Rd (w:World) (a:Option Addr) (n cap:Nat) (f:Nat→T):Prop:=
 n≤cap∧n*40≤140737488351232∧(n=0∨∃b off,a=some ⟨b,off,none⟩∧b<w.heap.size∧∀i,i<n→oM w b (off+i*5) (f i))
theorem oM.below {w w':World} {b o:Nat} {t:T} {B:Nat} (h:oM w b o t) (hb:Below B w w') (hB:b<B):oM w' b o t:=by obtain⟨h0,h1,h2,h3,h4⟩:=h;exact⟨(hb.cell (p:=⟨b,o,none⟩) hB).trans h0,(hb.cell (p:=⟨b,o+1,none⟩) hB).trans h1,(hb.cell (p:=⟨b,o+2,none⟩) hB).trans h2,(hb.cell (p:=⟨b,o+3,none⟩) hB).trans h3,(hb.cell (p:=⟨b,o+4,none⟩) hB).trans h4⟩
theorem Rd.below {w w':World} {a:Option Addr} {n cap:Nat} {f:Nat→T} (h:Rd w a n cap f) (hb:Below w.heap.size w w'):Rd w' a n cap f:=by
 obtain⟨h1,h2,h3⟩:=h;refine⟨h1,h2,?_⟩;rcases h3 with h0|⟨b,off,rfl,hlt,hc⟩
 ·exact .inl h0
 ·exact .inr ⟨b,off,rfl,iZ hlt hb.size,fun i hi=>(hc i hi).below hb hlt⟩
theorem lU (w:World) (a:Option Addr) (n cap:Nat) (f:Nat→T) (h:Rd w a n cap f):Calls Tryz.prog 58 #[.slice a n cap] w fun r w'=>r= .returned (.bool (aL n f))∧Below w.heap.size w w':=by
 obtain⟨h1,h2,h3⟩:=h;have hn:(n:Int)≤140737488351232:=by omega
 by_cases hl:n≤400
 ·have hl':(n:Int)≤400:=by omega
  go_enter Tryz.func58,Tryz.ntmps58;go_wp2;go_loopw [3] (fun i wr=>∃k:Nat,k≤n∧i= .int .i64 k∧Below w.heap.size w wr∧∀j,j<k→kG f j=true) (fun i _=>n-(intOf i).toNat);case atStart=>exact⟨0,gY _,rfl,bQ _ _,fun j hj=>absurd hj (NX _)⟩
  case round=>
   obtain⟨k,hk,rfl,hB,hok⟩:=hrel;by_cases hlt:k<n
   ·rcases h3 with h0|⟨b,off,rfl,hblt,hcl⟩
    ·omega
    have hkn:(k:Int)<(n:Int):=by omega
    have hbr:b<wr.heap.size:=iZ hblt hB.size;have ne:=cH.there wr
    have hck:=(hcl k hlt).below hB hblt;have s0:∀u:cH wr,u.1.cell? ⟨b,off+k*5,none⟩=some (.int .i64 (f k).c):=fun u=>(u.cell hbr).trans hck.1
    have s1:∀u:cH wr,u.1.cell? ⟨b,off+k*5+1,none⟩=some (.int .i64 (f k).m.x):=fun u=>(u.cell hbr).trans hck.2.1;have s2:∀u:cH wr,u.1.cell? ⟨b,off+k*5+2,none⟩=some (.int .i64 (f k).m.y):=fun u=>(u.cell hbr).trans hck.2.2.1
    have s3:∀u:cH wr,u.1.cell? ⟨b,off+k*5+3,none⟩=some (.int .i64 (f k).m.d):=fun u=>(u.cell hbr).trans hck.2.2.2.1;have s4:∀u:cH wr,u.1.cell? ⟨b,off+k*5+4,none⟩=some (.int .i64 (f k).m.e):=fun u=>(u.cell hbr).trans hck.2.2.2.2
    clear hck;have ho:kG f k=(decide (1≤(f k).c∧(f k).c≤100)&&(f k).m.ok&&(decide (k=0)||decide (0<M.ord 1 (f (k-1)).m (f k).m))):=rfl
    have hno:kG f k=false→aL n f=false:=fun hf=>by
     simp only[aL,decide_eq_false_iff_not];intro hh;have:=hh.2 k hlt
     rw[hf]at this;cases this
    by_cases hc:1≤(f k).c∧(f k).c≤100
    ·obtain⟨c1,c2⟩:=hc;cases hm:(f k).m.ok
     ·have HF:Hid (aL n f=false):=hno (by rw[ho,hm];simp);clear hno ho hcl hok;go_wp2_with fail;refine aH (by kernel_rfl) (by kernel_rfl) ?_;repeat(go_big_quiet_step (first|(go_at_call 43;exact pB (dE _ _ _ _ c1 c2))|(go_at_call 99;exact aJ (bV hm _))))
      refine wpQuiet_nil ?_;rintro _ ⟨u,rfl⟩;go_wp2;go_ret;exact⟨by rw[HF.out];rfl,hB.trans (u.2.mono hB.size)⟩
     ·by_cases hk0:k=0
      ·have ht:kG f k=true:=by rw[ho,hm,decide_eq_true (p:=1≤(f k).c∧(f k).c≤100) ⟨c1,c2⟩,decide_eq_true hk0];rfl
       have hok':Hid (∀j,j<k+1→kG f j=true):=fun j hj=>by
        by_cases hjk:j=k
        ·rw[hjk];exact ht
        ·exact hok j (by omega)
       have dk:decide (0<k)=false:=decide_eq_false (by omega);clear hno ho hcl hok ht hk0;go_wp2_with fail;refine aH (by kernel_rfl) (by kernel_rfl) ?_;repeat(go_big_quiet_step (first|(go_at_call 43;exact pB (dE _ _ _ _ c1 c2))|(go_at_call 99;exact aJ (bV hm _))))
       refine wpQuiet_nil ?_;rintro _ ⟨u,rfl⟩;go_wp2;go_roundw;case rel=>exact⟨k+1,by omega,by go_num,hB.trans (u.2.mono hB.size),hok'.out⟩
       case measure=>simp[intOf];omega
      ·have hj:k-1<n:=by omega
       have hcj:=(hcl (k-1) hj).below hB hblt;have p1:∀u:cH wr,u.1.cell? ⟨b,off+(k-1)*5+1,none⟩=some (.int .i64 (f (k-1)).m.x):=fun u=>(u.cell hbr).trans hcj.2.1
       have p2:∀u:cH wr,u.1.cell? ⟨b,off+(k-1)*5+2,none⟩=some (.int .i64 (f (k-1)).m.y):=fun u=>(u.cell hbr).trans hcj.2.2.1;have p3:∀u:cH wr,u.1.cell? ⟨b,off+(k-1)*5+3,none⟩=some (.int .i64 (f (k-1)).m.d):=fun u=>(u.cell hbr).trans hcj.2.2.2.1
       have p4:∀u:cH wr,u.1.cell? ⟨b,off+(k-1)*5+4,none⟩=some (.int .i64 (f (k-1)).m.e):=fun u=>(u.cell hbr).trans hcj.2.2.2.2;clear hcj;have dk:decide (0<k)=true:=decide_eq_true (by omega)
       have hk1:(0:Int)<(k:Int):=by omega
       have hk2:(k:Int)-1<(n:Int):=by omega
       have hk3:(0:Int)≤(k:Int)-1:=by omega
       by_cases hq:0<M.ord 1 (f (k-1)).m (f k).m
       ·have ht:kG f k=true:=by rw[ho,hm,decide_eq_true (p:=1≤(f k).c∧(f k).c≤100) ⟨c1,c2⟩,decide_eq_true hq];simp
        have hok':Hid (∀j,j<k+1→kG f j=true):=fun j hj=>by
         by_cases hjk:j=k
         ·rw[hjk];exact ht
         ·exact hok j (by omega)
        have dq:decide (M.ord 1 ⟨(f (k-1)).m.x,(f (k-1)).m.y,(f (k-1)).m.d,(f (k-1)).m.e⟩ ⟨(f k).m.x,(f k).m.y,(f k).m.d,(f k).m.e⟩≤0)=false:=decide_eq_false (Int.not_le.2 hq);clear hno ho hcl hok ht hk0 hq;go_wp2_with fail;refine aH (by kernel_rfl) (by kernel_rfl) ?_;repeat(go_big_quiet_step (first|(go_at_call 43;exact pB (dE _ _ _ _ c1 c2))|(go_at_call 99;exact aJ (bV hm _))|(go_at_call 100;exact aJ (MM _ _ _ _ _ _ _ _ _))))
        refine wpQuiet_nil ?_;rintro _ ⟨u,rfl⟩;go_wp2;go_roundw;case rel=>exact⟨k+1,by omega,by go_num,hB.trans (u.2.mono hB.size),hok'.out⟩
        case measure=>simp[intOf];omega
       ·have HF:Hid (aL n f=false):=hno (by rw[ho,hm];simp[hk0,hq]);have dq:decide (M.ord 1 ⟨(f (k-1)).m.x,(f (k-1)).m.y,(f (k-1)).m.d,(f (k-1)).m.e⟩ ⟨(f k).m.x,(f k).m.y,(f k).m.d,(f k).m.e⟩≤0)=true:=decide_eq_true (Int.not_lt.1 hq)
        clear hno ho hcl hok hk0 hq;go_wp2_with fail;refine aH (by kernel_rfl) (by kernel_rfl) ?_;repeat(go_big_quiet_step (first|(go_at_call 43;exact pB (dE _ _ _ _ c1 c2))|(go_at_call 99;exact aJ (bV hm _))|(go_at_call 100;exact aJ (MM _ _ _ _ _ _ _ _ _))))
        refine wpQuiet_nil ?_;rintro _ ⟨u,rfl⟩;go_wp2;go_ret;exact⟨by rw[HF.out];rfl,hB.trans (u.2.mono hB.size)⟩
    ·have HF:Hid (aL n f=false):=hno (by rw[ho];simp[hc]);have hc':(f k).c<1∨(1≤(f k).c∧100<(f k).c):=by omega
     clear hc hno ho hcl hok;go_wp2_with fail;refine aH (by kernel_rfl) (by kernel_rfl) ?_;repeat(go_big_quiet_step ((go_at_call 43;exact pB (dY _ _ _ _ hc'))))
     refine wpQuiet_nil ?_;rintro _ ⟨u,rfl⟩;go_wp2;go_ret;exact⟨by rw[HF.out];rfl,hB.trans (u.2.mono hB.size)⟩
   ·go_wp2;go_ret;have hp:aL n f=true:=by simp only[aL,decide_eq_true_eq];exact⟨hl,fun i hi=>hok i (by omega)⟩
    exact⟨by rw[hp];rfl,hB⟩
 ·have hl':(400:Int)<(n:Int):=by omega
  have hp:aL n f=false:=by simp only[aL,decide_eq_false_iff_not];exact fun h=>hl h.1
  rw[hp];go_enter Tryz.func58,Tryz.ntmps58;go_wp2;go_ret;exact⟨rfl,bQ _ _⟩
theorem tD {a b:M} (ha:a.ok=true) (hb:b.ok=true):0<M.ord 1 a b↔eQ b<eQ a:=by
 rw[←yS ha hb];unfold c3;constructor
 ·intro h;split at h
  ·omega
  ·split at h<;>omega
 ·intro h;rw[if_neg (by omega),if_pos h];decide
def gL (c:Int) (m:M):Bool:=decide (1≤c∧c≤100)&&m.ok
theorem KB (c x y d e:Int) (w:World):Calls Tryz.prog 87 #[.int .i64 c,.agg #[.int .i64 x,.int .i64 y,.int .i64 d,.int .i64 e]] w fun r w'=>r= .returned (.bool (gL c ⟨x,y,d,e⟩))∧Below w.heap.size w w':=by
 by_cases h0:c=0
 ·subst h0;have e1:gL 0 ⟨x,y,d,e⟩=false:=by simp[gL]
  rw[e1];go_enter Tryz.func87,Tryz.ntmps87;go_wp2;go_ret;exact⟨rfl,aC w _⟩
 ·have hz:(c !=0)=true:=by simp[h0]
  by_cases hc:0≤c∧c≤100
  ·obtain⟨c1,c2⟩:=hc;have e1:gL c ⟨x,y,d,e⟩=M.ok ⟨x,y,d,e⟩:=by
    have:1≤c∧c≤100:=by omega
    simp[gL,this]
   rw[e1];clear h0 e1;go_enter Tryz.func87,Tryz.ntmps87;go_wp2_with (go_at_call 121;refine(rJ _ _ c1 c2).mono ?_;rintro r w' ⟨rfl,rfl⟩);refine(lT _ _ _ _ _).mono ?_;rintro r w1 ⟨rfl,hb⟩;go_wp2;go_ret;exact⟨rfl,aB (aC w _) hb⟩
  ·have hc':c<0∨100<c:=by omega
   have e1:gL c ⟨x,y,d,e⟩=false:=by
    have:¬(1≤c∧c≤100):=by omega
    simp[gL,this]
   rw[e1];clear hc e1 h0;go_enter Tryz.func87,Tryz.ntmps87;go_wp2_with (go_at_call 121;refine(oD _ _ hc').mono ?_;rintro r w' ⟨rfl,rfl⟩);go_ret;exact⟨rfl,aC w _⟩
theorem jN {c x y d e:Int} {b:Bool} (h:gL c ⟨x,y,d,e⟩=b) (w:World):Calls Tryz.prog 87 #[.int .i64 c,.agg #[.int .i64 x,.int .i64 y,.int .i64 d,.int .i64 e]] w fun r w'=>r= .returned (.bool b)∧Below w.heap.size w w':=by rw[←h];exact KB c x y d e w
theorem BH {f:Nat→T} {k:Nat} (h:kG f k=true):gL (f k).c (f k).m=true:=by simp only[kG,Bool.and_eq_true]at h;simp only[gL,Bool.and_eq_true];exact h.1
theorem eS (w:World) (a:Option Addr) (n cap:Nat) (f:Nat→T) (h:Rd w a n cap f):Calls Tryz.prog 46 #[.slice a n cap] w fun r w'=>r= .returned (.bool (aL n f))∧Below w.heap.size w w':=by
 obtain⟨h1,h2,h3⟩:=h;have hn:(n:Int)≤140737488351232:=by omega
 by_cases hl:n≤400
 ·have hl':(n:Int)≤400:=by omega
  go_enter Tryz.func46,Tryz.ntmps46;go_wp2;go_loopw [10] (fun i wr=>∃k:Nat,k≤n∧i= .int .i64 k∧Below w.heap.size w wr∧∀j,j<k→kG f j=true) (fun i _=>n-(intOf i).toNat);case atStart=>exact⟨0,gY _,rfl,bQ _ _,fun j hj=>absurd hj (NX _)⟩
  case round=>
   obtain⟨k,hk,rfl,hB,hok⟩:=hrel;by_cases hlt:k<n
   ·rcases h3 with h0|⟨b,off,rfl,hblt,hcl⟩
    ·omega
    have hkn:(k:Int)<(n:Int):=by omega
    have hbr:b<wr.heap.size:=iZ hblt hB.size;obtain⟨g0,g1,g2,g3,g4⟩:=(hcl k hlt).below hB hblt;have hno:kG f k=false→aL n f=false:=fun hf=>by
     simp only[aL,decide_eq_false_iff_not];intro hh;have:=hh.2 k hlt
     rw[hf]at this;cases this
    cases ht:gL (f k).c (f k).m
    ·have HF:Hid (aL n f=false):=hno (by
      cases h:kG f k
      ·rfl
      ·rw[BH h]at ht;cases ht)
     clear hno hcl hok;go_wp2_with fail;refine(jN ht _).mono ?_;rintro r w1 ⟨rfl,hb⟩;have HB:=aA (aB (hB.alloc hB.size _) hb)
     clear hb;go_wp2;go_ret;exact⟨by rw[HF.out];rfl,HB.out⟩
    ·have hm:(f k).m.ok=true:=by simp only[gL,Bool.and_eq_true]at ht;exact ht.2
     have HM:=aA hm;have HCL:=aA hcl
     have HOK:=aA hok;have HNO:=aA hno
     clear hcl hok hno hm;go_wp2_with fail;refine(jN ht _).mono ?_;rintro r w1 ⟨rfl,hb⟩;have HB:=aA (aB (hB.alloc hB.size _) hb)
     have hb1:b<w1.heap.size:=by have:=hb.size;simp at this;omega
     have hb2:wr.heap.size<w1.heap.size:=by have:=hb.size;simp at this;omega
     have hq:∀i v,#[Value.int .i64 (f k).c,.int .i64 (f k).m.x,.int .i64 (f k).m.y,.int .i64 (f k).m.d,.int .i64 (f k).m.e][i]? =some v→w1.cell? ⟨wr.heap.size,i,none⟩=some v:=fun i v hv=>by rw[hb.cell (p:=⟨wr.heap.size,i,none⟩) (by simp),World.cell?_alloc_at _ _ _ _ rfl];exact hv
     have ne:=cH.there w1;have s1:∀u:cH w1,u.1.cell? ⟨wr.heap.size,1,none⟩=some (.int .i64 (f k).m.x):=fun u=>(u.cell hb2).trans (hq 1 _ rfl)
     have s2:∀u:cH w1,u.1.cell? ⟨wr.heap.size,2,none⟩=some (.int .i64 (f k).m.y):=fun u=>(u.cell hb2).trans (hq 2 _ rfl);have s3:∀u:cH w1,u.1.cell? ⟨wr.heap.size,3,none⟩=some (.int .i64 (f k).m.d):=fun u=>(u.cell hb2).trans (hq 3 _ rfl)
     have s4:∀u:cH w1,u.1.cell? ⟨wr.heap.size,4,none⟩=some (.int .i64 (f k).m.e):=fun u=>(u.cell hb2).trans (hq 4 _ rfl);have HBK:=aA hB
     clear hq hb g0 g1 g2 g3 g4 hB;by_cases hk0:k=0
     ·have ht':kG f k=true:=by simp only[kG,gL,Bool.and_eq_true]at ht⊢;exact⟨ht,by simp[hk0]⟩
      have hok':Hid (∀j,j<k+1→kG f j=true):=fun j hj=>by
       by_cases hjk:j=k
       ·rw[hjk];exact ht'
       ·exact HOK.out j (by omega)
      have dk:decide (0<k)=false:=decide_eq_false (by omega);clear ht' hk0 ht;go_wp2_with fail;refine aH (by kernel_rfl) (by kernel_rfl) ?_;repeat(go_big_quiet_step (fail))
      refine wpQuiet_nil ?_;rintro _ ⟨u,rfl⟩;go_wp2;go_roundw;case rel=>exact⟨k+1,by omega,by go_num,HB.out.trans (u.2.mono HB.out.size),hok'.out⟩
      case measure=>simp[intOf];omega
     ·have hj:k-1<n:=by omega
      have hcj:=((HCL.out (k-1) hj).below HBK.out hblt)
      have hcj1:oM w1 b (off+(k-1)*5) (f (k-1)):=(HCL.out (k-1) hj).below HB.out hblt;have p1:∀u:cH w1,u.1.cell? ⟨b,off+(k-1)*5+1,none⟩=some (.int .i64 (f (k-1)).m.x):=fun u=>(u.cell hb1).trans hcj1.2.1
      have p2:∀u:cH w1,u.1.cell? ⟨b,off+(k-1)*5+2,none⟩=some (.int .i64 (f (k-1)).m.y):=fun u=>(u.cell hb1).trans hcj1.2.2.1;have p3:∀u:cH w1,u.1.cell? ⟨b,off+(k-1)*5+3,none⟩=some (.int .i64 (f (k-1)).m.d):=fun u=>(u.cell hb1).trans hcj1.2.2.2.1
      have p4:∀u:cH w1,u.1.cell? ⟨b,off+(k-1)*5+4,none⟩=some (.int .i64 (f (k-1)).m.e):=fun u=>(u.cell hb1).trans hcj1.2.2.2.2;have hmp:(f (k-1)).m.ok=true:=by have:=BH (HOK.out (k-1) (by omega));simp only[gL,Bool.and_eq_true]at this;exact this.2
      have HMP:=aA hmp;clear hcj hcj1;have dk:decide (0<k)=true:=decide_eq_true (by omega)
      have hk1:(0:Int)<(k:Int):=by omega
      have hk2:(k:Int)-1<(n:Int):=by omega
      have hk3:(0:Int)≤(k:Int)-1:=by omega
      by_cases hq:eQ (f k).m<eQ (f (k-1)).m
      ·have ht':kG f k=true:=by simp only[kG,gL,Bool.and_eq_true]at ht⊢;exact⟨ht,by rw[decide_eq_true ((tD hmp HM.out).2 hq)];simp⟩
       have hok':Hid (∀j,j<k+1→kG f j=true):=fun j hj=>by
        by_cases hjk:j=k
        ·rw[hjk];exact ht'
        ·exact HOK.out j (by omega)
       have dq:decide (eQ ⟨(f (k-1)).m.x,(f (k-1)).m.y,(f (k-1)).m.d,(f (k-1)).m.e⟩≤eQ ⟨(f k).m.x,(f k).m.y,(f k).m.d,(f k).m.e⟩)=false:=decide_eq_false (Int.not_le.2 hq);clear ht' hk0 ht hq hmp;go_wp2_with fail;refine aH (by kernel_rfl) (by kernel_rfl) ?_;repeat(go_big_quiet_step (first|(go_at_call 88;exact aJ (gJ _ _ _ _ _ HMP.out))|(go_at_call 88;exact aJ (gJ _ _ _ _ _ HM.out))))
       refine wpQuiet_nil ?_;rintro _ ⟨u,rfl⟩;go_wp2;go_roundw;case rel=>exact⟨k+1,by omega,by go_num,HB.out.trans (u.2.mono HB.out.size),hok'.out⟩
       case measure=>simp[intOf];omega
      ·have HF:Hid (aL n f=false):=HNO.out (by
        cases hx:kG f k
        ·rfl
        ·exfalso;simp only[kG,Bool.and_eq_true,Bool.or_eq_true,decide_eq_true_eq]at hx;rcases hx.2 with h0|h0
         ·exact hk0 h0
         ·exact hq ((tD hmp HM.out).1 h0))
       have dq:decide (eQ ⟨(f (k-1)).m.x,(f (k-1)).m.y,(f (k-1)).m.d,(f (k-1)).m.e⟩≤eQ ⟨(f k).m.x,(f k).m.y,(f k).m.d,(f k).m.e⟩)=true:=decide_eq_true (Int.not_lt.1 hq);clear hk0 ht hq hmp;go_wp2_with fail;refine aH (by kernel_rfl) (by kernel_rfl) ?_;repeat(go_big_quiet_step (first|(go_at_call 88;exact aJ (gJ _ _ _ _ _ HMP.out))|(go_at_call 88;exact aJ (gJ _ _ _ _ _ HM.out))))
       refine wpQuiet_nil ?_;rintro _ ⟨u,rfl⟩;go_wp2;go_ret;exact⟨by rw[HF.out];rfl,HB.out.trans (u.2.mono HB.out.size)⟩
   ·go_wp2;go_ret;have hp:aL n f=true:=by simp only[aL,decide_eq_true_eq];exact⟨hl,fun i hi=>hok i (by omega)⟩
    exact⟨by rw[hp];rfl,hB⟩
 ·have hl':(400:Int)<(n:Int):=by omega
  have hp:aL n f=false:=by simp only[aL,decide_eq_false_iff_not];exact fun h=>hl h.1
  rw[hp];go_enter Tryz.func46,Tryz.ntmps46;go_wp2;go_ret;exact⟨rfl,bQ _ _⟩
end Go.Proofs.YtmlaedpamobmhaaGreat
